/- The draw of chapter 7: some list of events, at most 301. -/
import Derived.Test.YtoknjofdpnjioaaDoorDraw2
import Derived.Test.YtoknjofdpnjioaaDoorRowC
namespace Go.Proofs.YtoknjofdpnjioaaDoor.Draw
open Go.RowKit Go.Deep Base Rw

theorem size40_any (A : Option Addr) (n cap : Nat) (w : World) (hn : n ≤ 1048576) :
    Calls Tryd.prog 41 #[.slice A n cap, .int .i64 40] w fun e w' => (∃ x, e = .returned (.int .i64 x) ∧ 2 ≤ x ∧ x ≤ 40) ∧ w = w' := by
  obtain ⟨p, hp⟩ : ∃ p : Nat, n / 16 = p := ⟨_, rfl⟩
  have hd : ((n : Int)).tdiv 16 = (p : Int) := by
    rw [Int.tdiv_eq_ediv_of_nonneg (by omega)]; omega
  have hp1 : p ≤ 1048576 := by omega
  clear hp
  have h1 : 0 ≤ (2 : Int) + (p : Int) ∧ (2 : Int) + (p : Int) ≤ 1048578 := by omega
  have hw : IntKind.i64.wrap (p : Int) = (p : Int) := IntWalk.i64_in _ (by omega)
  have hw2 : IntKind.i64.wrap (2 + (p : Int)) = 2 + (p : Int) := IntWalk.i64_in _ (by omega)
  by_cases h60 : (40 : Int) < 2 + (p : Int)
  · go_enter Tryd.func41, Tryd.ntmps41
    go_wp2
    go_ret
    exact ⟨⟨40, rfl, by omega, by omega⟩, rfl⟩
  · go_enter Tryd.func41, Tryd.ntmps41
    go_wp2
    go_ret
    exact ⟨⟨_, rfl, by omega, by omega⟩, rfl⟩

theorem big_any (A : Option Addr) (n cap : Nat) (w : World) (hm : n ≤ maxLen) : Calls Tryd.prog 10 #[.slice A n cap] w fun e w' => e = .returned (.bool (decide (1048576 < n))) ∧ w = w' := by
  unfold maxLen at hm
  go_enter Tryd.func10, Tryd.ntmps10
  go_wp2
  go_ret
  exact ⟨ret_bool (by simp; omega), rfl⟩

theorem at_any (A : Option Addr) (n cap : Nat) (zs : List Int) (k : Nat) (hk : k ≤ 1000) (w : World) (B : Nat) (hn : zs.length = n) (hs : n ≤ 1048576) (hb : Bytes w B A zs) :
    Calls Tryd.prog 15 #[.slice A n cap, .int .i64 k] w fun e w' => (∃ x, e = .returned (.int .i64 x) ∧ 0 ≤ x ∧ x ≤ 255) ∧ w = w' := by
  have HB := Lib.hid hb
  have HN := Lib.hid hn
  clear hb hn
  by_cases h0 : k < n
  · obtain ⟨b, off, rfl, hlb, hcb⟩ := HB.out.2 (by have := HN.out; omega)
    have hz := HB.out.1 k (by have := HN.out; omega)
    have cz := hcb k (by have := HN.out; omega)
    clear hcb
    generalize zs.getD k 0 = z at hz cz
    obtain ⟨z0, z1⟩ := hz
    have h0' : (k : Int) < (n : Int) := by omega
    have hk0 : (0 : Int) ≤ (k : Int) := by omega
    go_enter Tryd.func15, Tryd.ntmps15
    go_wp2
    go_ret
    exact ⟨⟨z, rfl, z0, by omega⟩, rfl⟩
  · have h0' : ¬ (k : Int) < (n : Int) := by omega
    have hm : 0 ≤ ((k : Int) * 13 + (n : Int) * 5).tmod 256 ∧ ((k : Int) * 13 + (n : Int) * 5).tmod 256 ≤ 255 := by
      rw [Int.tmod_eq_emod_of_nonneg (by omega)]; omega
    go_enter Tryd.func15, Tryd.ntmps15
    go_wp2
    go_ret
    exact ⟨⟨_, rfl, by omega, by omega⟩, rfl⟩

theorem bel_of_grown {a b : World} {row : Option Nat} {B : Nat} (h : a.grownBy b row) (hr : ∀ j, row = some j → B ≤ j) (hB : B ≤ a.heap.size) : Below B a b :=
  ⟨h.os, h.tape, h.output, h.size, fun i hi => h.block i (by omega) (fun e => by have := hr i e.symm; omega)⟩

/-- While the events are drawn: the cursor in block g, the row u of the events so far. -/
structure EvSt (w W : World) (g : Nat) (A : Option Addr) (n cap : Nat) (zs : List Int) (u : Value) (ids : List Int) : Prop where
  cur : Cur W g A n cap zs
  bel : Below w.heap.size w W
  own : W.ownsRow (g + 1) 3 1 u ids.length (ids.map (Value.int .i64))
  lt1 : w.heap.size ≤ g

section
variable {w W W' : World} {g : Nat} {A : Option Addr} {n cap : Nat} {zs : List Int} {u v : Value} {ids : List Int}
theorem EvSt.glt (h : EvSt w W g A n cap zs u ids) : g < W.heap.size := h.cur.lt
theorem EvSt.ob (h : EvSt w W g A n cap zs u ids) : ∀ j, u.ownBlock = some j → g + 1 ≤ j := fun j e => (h.own.lt j e).1
theorem EvSt.draw (h : EvSt w W g A n cap zs u ids) (hc : Cur W' g A n cap zs) (hg : W.grownBy W' (some g)) : EvSt w W' g A n cap zs u ids := by
  have h1 := h.lt1
  have h3 := h.bel.size
  refine ⟨hc, h.bel.trans (grown_below hg h3 h1), h.own.kept hg ?_, h1⟩
  cases e : u.ownBlock with
  | none => exact .inl rfl
  | some j => exact .inr (fun e' => by injection e' with e'; have := h.ob j e; omega)
theorem EvSt.alloc (h : EvSt w W g A n cap zs u ids) (o : Obj) : EvSt w (W.alloc o) g A n cap zs u ids :=
  ⟨h.cur.alloc o, h.bel.alloc h.bel.size o, h.own.alloc o, h.lt1⟩
theorem EvSt.push {o : Obj} {x : Int} (h : EvSt w W g A n cap zs u ids) (hown : W'.ownsRow (g + 1) 3 1 v (ids.length + 1) (ids.map (Value.int .i64) ++ [.int .i64 x])) (hg : (W.alloc o).grownBy W' u.ownBlock) : EvSt w W' g A n cap zs v (ids ++ [x]) := by
  have h1 := h.lt1
  have h3 := h.glt
  have hb : Below (g + 1) W W' := ((Below.refl _ W).alloc (by omega) o).trans (bel_of_grown hg h.ob (by simp; omega))
  exact ⟨h.cur.keep hb, h.bel.trans (hb.mono (by omega)), by simpa using hown, h1⟩
end

theorem owns_set {W : World} {B b c m : Nat} {ids : List Int} (h : W.ownsRow B 3 1 (.slice (some ⟨b, 0, none⟩) m c) m (ids.map (Value.int .i64))) (i : Nat) (x : Int) : (W.setCell ⟨b, i, none⟩ (.int .i64 x)).ownsRow B 3 1 (.slice (some ⟨b, 0, none⟩) m c) m ((ids.set i x).map (Value.int .i64)) := by
  refine ⟨by rw [List.length_map, List.length_set]; have := h.1; rwa [List.length_map] at this, ?_⟩
  rcases h.2 with ⟨hv, _⟩ | ⟨b', c', cur, hv, hB, hg, hle, hmx, hsz, htk⟩
  · cases hv
  · injection hv with e1 _ e2
    injection e1 with e1
    injection e1 with e1
    subst e1 e2
    refine .inr ⟨b, c, cur.setIfInBounds i (.int .i64 x), rfl, hB, heap_set hg _ _, hle, hmx, by simpa using hsz, ?_⟩
    rw [Array.toList_setIfInBounds, List.take_set, htk, List.map_set]

theorem EvSt.put {w W : World} {g b c m : Nat} {A : Option Addr} {n cap : Nat} {zs : List Int} {ids : List Int} (h : EvSt w W g A n cap zs (.slice (some ⟨b, 0, none⟩) m c) ids) (hm : ids.length = m) (i : Nat) (x : Int) : EvSt w (W.setCell ⟨b, i, none⟩ (.int .i64 x)) g A n cap zs (.slice (some ⟨b, 0, none⟩) m c) (ids.set i x) := by
  have h1 := h.lt1
  have hb := h.ob b rfl
  have hbl : Below (g + 1) W (W.setCell ⟨b, i, none⟩ (.int .i64 x)) := (Below.refl (g + 1) W).setCell (p := ⟨b, i, none⟩) hb _
  subst hm
  exact ⟨h.cur.keep hbl, h.bel.trans (hbl.mono (by omega)), by rw [List.length_set]; exact owns_set h.own i x, h1⟩

/-- What the draw hands back. -/
def DrewEv (w : World) (e : Ending) (w' : World) : Prop :=
  ∃ (A' : Option Addr) (cap' : Nat) (es : List Int), e = .returned (.slice A' es.length cap') ∧ Ints w' A' es ∧ es.length ≤ 301 ∧ Below w.heap.size w w'

set_option maxRecDepth 100000 in
set_option maxHeartbeats 4000000 in
theorem drawEv_any (A : Option Addr) (n cap : Nat) (zs : List Int) (w : World) (hn : zs.length = n) (hs : n ≤ 1048576) (hb : Bytes w w.heap.size A zs) :
    Calls Tryd.prog 30 #[.slice A n cap] w (DrewEv w) := by
  have Hn := Lib.hid hn
  have HB := Lib.hid hb
  clear hn hb
  go_enter Tryd.func30, Tryd.ntmps30
  go_wp2_with fail
  refine (new_any A n cap zs w Hn.out hs HB.out).mono ?_
  rintro e w1 ⟨rfl, hc1, b1⟩
  have hgl := hc1.lt
  generalize hg : w.heap.size = g at hc1 hgl ⊢
  have S : Hid (EvSt w (w1.alloc (.cells #[] 3)) g A n cap zs (.slice (some ⟨w1.heap.size, 0, none⟩) 0 0) []) := Lib.hid (by
    have O0 := World.ownsRow_lit (base := g + 1) (e := 3) (size := 1) w1 #[] 0 hgl (by simp) (by simp)
    exact ⟨hc1.alloc _, bel_trans b1 (bel_alloc _ _), by simpa using O0, by omega⟩)
  have Hg := Lib.hid hg
  clear b1 hc1 hg
  go_wp2_with fail
  obtain ⟨W, hW⟩ : ∃ W, w1.alloc (.cells #[] 3) = W := ⟨_, rfl⟩
  rw [hW] at S ⊢
  clear hW
  refine (size40_any A n cap _ hs).mono ?_
  rintro e w' ⟨⟨q, rfl, q0, q1⟩, rfl⟩
  go_wp2_with fail
  refine (below_any g A n cap zs q _ S.out.cur).mono ?_
  rintro e w2 ⟨m, rfl, hx, hc, hg'⟩
  obtain ⟨m0, m1⟩ := hx.2 (by omega)
  replace S := Lib.hid (S.out.draw hc hg')
  clear hx hc hg'
  go_wp2_with fail
  refine (once_any g A n cap zs 40 _ S.out.cur).mono ?_
  rintro e w3 ⟨x, rfl, hc, hg'⟩
  replace S := Lib.hid (S.out.draw hc hg')
  clear hc hg'
  have hm : 0 ≤ m ∧ m ≤ 301 := by omega
  clear m0 m1 q0 q1
  cases x
  rotate_left
  · go_wp2_with fail
    refine (below_any g A n cap zs 2 _ S.out.cur).mono ?_
    rintro e w4 ⟨y, rfl, hx, hc, hg'⟩
    obtain ⟨y0, y1⟩ := hx.2 (by omega)
    replace S := Lib.hid (S.out.draw hc hg')
    clear hx hc hg' hm
    go_wp2_with fail
    have hm : 0 ≤ 300 + y ∧ 300 + y ≤ 301 := by omega
    generalize 300 + y = m at hm ⊢
    clear y0 y1
    obtain ⟨p, rfl⟩ := Int.eq_ofNat_of_zero_le hm.1
    go_loopw [4, 6] (fun v i wr => ∃ (u : Value) (k : Nat) (ids : List Int), u = v ∧ i = .int .i64 k ∧ k ≤ p ∧ ids.length = k ∧ EvSt w wr g A n cap zs u ids) (fun _ i _ => p - (intOf i).toNat)
    case atStart => exact ⟨_, 0, [], rfl, rfl, Nat.zero_le _, rfl, S.out⟩
    case round =>
      obtain ⟨u, k, ids, rfl, rfl, hkp, hil, hst⟩ := hrel
      replace S := Lib.hid hst
      have Hil := Lib.hid hil
      clear hst hil
      by_cases hlt : k < p
      · have hlt' : (k : Int) < (p : Int) := by omega
        go_wp2_with fail
        refine (pick_any g A n cap zs wr.heap.size 10 10 [0, 0, 1, 1, 2, 2, 3, 3, 4, 5] _ (S.out.cur.alloc _) (by have := S.out.glt; omega) rfl (by decide) (by decide) (fun i hi => new_cells wr [0, 0, 1, 1, 2, 2, 3, 3, 4, 5] 3 i hi)).mono ?_
        rintro e w6 ⟨y, rfl, hx, hc, hg'⟩
        replace S := Lib.hid ((S.out.alloc _).draw hc hg')
        have hk6 := S.out.glt
        clear hx hc hg'
        obtain ⟨i0, hi0, hz0, hz1, hz2⟩ := info_parts infoInt
        have Hi0 := Lib.hid hi0
        have Hz0 := Lib.hid hz0
        have Hz1 := Lib.hid hz1
        have Hz2 := Lib.hid hz2
        clear hi0 hz0 hz1 hz2
        go_wp2_with (at_builtin; refine wpList_append_own _ rfl _ _ 24 rfl (g + 1) 3 i0 (.int .i64 0) 1 8 Tryd.underlying24 Hi0.out Hz0.out Hz1.out Hz2.out rfl (by decide) _ _ _ rfl (S.out.own.alloc _) ⟨w6.heap.size, 0, none⟩ 1 1 [.int .i64 y] rfl rfl ?c1h ?c2h ?c3h ?c4h ?c5h ?_)
        case c1h => exact new_one_at rfl _ _
        case c2h => simp [Value.oneCell']
        case c3h => rw [Hil.out]; unfold maxLen; omega
        case c4h => rw [Hil.out]; omega
        case c5h => simp; omega
        intro v' w7 hown hgr _
        have S7 := Lib.hid (S.out.push hown hgr)
        clear hown hgr S
        have Hi7 : Hid ((ids ++ [y]).length = k + 1) := Lib.hid (by rw [List.length_append, Hil.out]; rfl)
        generalize ids ++ [y] = ids' at S7 Hi7
        obtain ⟨A7, c7, rfl⟩ := owns_form S7.out.own
        have hA7 : ∃ g7, A7 = some ⟨g7, 0, none⟩ := by
          rcases S7.out.own.2 with ⟨_, h0⟩ | ⟨g7, _, _, h1, _⟩
          · have := Hi7.out; omega
          · injection h1 with h1
            exact ⟨g7, h1⟩
        obtain ⟨g7, rfl⟩ := hA7
        rw [Hi7.out] at S7 ⊢
        go_wp2_with fail
        refine (once_any g A n cap zs 40 _ S7.out.cur).mono ?_
        rintro e w8 ⟨o8, rfl, hc, hg'⟩
        replace S7 := Lib.hid (S7.out.draw hc hg')
        clear hc hg'
        cases o8
        · go_wp2
          go_roundw
          case rel => exact ⟨_, k + 1, ids', rfl, by go_num, by omega, Hi7.out, S7.out⟩
          case measure => simp [intOf]; omega
        · go_wp2_with fail
          refine (pick_any g A n cap zs w8.heap.size 3 3 [-1, 6, 7] _ (S7.out.cur.alloc _) (by have := S7.out.glt; omega) rfl (by decide) (by decide) (fun i hi => new_cells w8 [-1, 6, 7] 3 i hi)).mono ?_
          rintro e w9 ⟨y9, rfl, hx, hc, hg'⟩
          replace S7 := Lib.hid ((S7.out.alloc _).draw hc hg')
          clear hx hc hg'
          have hcl := S7.out.own
          rw [Hi7.out] at hcl
          have hce := hcl.cellAt k (by omega)
          rw [List.getElem?_map, List.getElem?_eq_getElem (by have := Hi7.out; omega), Option.map_some] at hce
          generalize ids'[k]'(by have := Hi7.out; omega) = zold at hce
          have hfz : w9.frozen? ⟨g7, k, none⟩ = false := (iv_owns (zs := ids') hcl (by have := Hi7.out; omega)).elim fun gx h => by
            obtain ⟨e, _, _, h⟩ := h
            injection e with e
            injection e with e
            subst e
            exact (h k (by have := Hi7.out; omega)).2 k
          clear hcl
          have S9 := Lib.hid (S7.out.put Hi7.out k y9)
          go_wp2
          go_roundw
          case rel => exact ⟨_, k + 1, ids'.set k y9, rfl, by go_num, by omega, by rw [List.length_set]; exact Hi7.out, S9.out⟩
          case measure => simp [intOf]; omega
      · have hlt' : ¬ (k : Int) < (p : Int) := by omega
        obtain ⟨A', cap', rfl⟩ := owns_form S.out.own
        go_wp2
        go_ret
        exact ⟨A', cap', ids, rfl, (iv_owns S.out.own).ints, by have := Hil.out; omega, S.out.bel⟩
    skip
  · go_wp2_with fail
    obtain ⟨p, rfl⟩ := Int.eq_ofNat_of_zero_le hm.1
    go_loopw [4, 6] (fun v i wr => ∃ (u : Value) (k : Nat) (ids : List Int), u = v ∧ i = .int .i64 k ∧ k ≤ p ∧ ids.length = k ∧ EvSt w wr g A n cap zs u ids) (fun _ i _ => p - (intOf i).toNat)
    case atStart => exact ⟨_, 0, [], rfl, rfl, Nat.zero_le _, rfl, S.out⟩
    case round =>
      obtain ⟨u, k, ids, rfl, rfl, hkp, hil, hst⟩ := hrel
      replace S := Lib.hid hst
      have Hil := Lib.hid hil
      clear hst hil
      by_cases hlt : k < p
      · have hlt' : (k : Int) < (p : Int) := by omega
        go_wp2_with fail
        refine (pick_any g A n cap zs wr.heap.size 10 10 [0, 0, 1, 1, 2, 2, 3, 3, 4, 5] _ (S.out.cur.alloc _) (by have := S.out.glt; omega) rfl (by decide) (by decide) (fun i hi => new_cells wr [0, 0, 1, 1, 2, 2, 3, 3, 4, 5] 3 i hi)).mono ?_
        rintro e w6 ⟨y, rfl, hx, hc, hg'⟩
        replace S := Lib.hid ((S.out.alloc _).draw hc hg')
        have hk6 := S.out.glt
        clear hx hc hg'
        obtain ⟨i0, hi0, hz0, hz1, hz2⟩ := info_parts infoInt
        have Hi0 := Lib.hid hi0
        have Hz0 := Lib.hid hz0
        have Hz1 := Lib.hid hz1
        have Hz2 := Lib.hid hz2
        clear hi0 hz0 hz1 hz2
        go_wp2_with (at_builtin; refine wpList_append_own _ rfl _ _ 24 rfl (g + 1) 3 i0 (.int .i64 0) 1 8 Tryd.underlying24 Hi0.out Hz0.out Hz1.out Hz2.out rfl (by decide) _ _ _ rfl (S.out.own.alloc _) ⟨w6.heap.size, 0, none⟩ 1 1 [.int .i64 y] rfl rfl ?c1h ?c2h ?c3h ?c4h ?c5h ?_)
        case c1h => exact new_one_at rfl _ _
        case c2h => simp [Value.oneCell']
        case c3h => rw [Hil.out]; unfold maxLen; omega
        case c4h => rw [Hil.out]; omega
        case c5h => simp; omega
        intro v' w7 hown hgr _
        have S7 := Lib.hid (S.out.push hown hgr)
        clear hown hgr S
        have Hi7 : Hid ((ids ++ [y]).length = k + 1) := Lib.hid (by rw [List.length_append, Hil.out]; rfl)
        generalize ids ++ [y] = ids' at S7 Hi7
        obtain ⟨A7, c7, rfl⟩ := owns_form S7.out.own
        have hA7 : ∃ g7, A7 = some ⟨g7, 0, none⟩ := by
          rcases S7.out.own.2 with ⟨_, h0⟩ | ⟨g7, _, _, h1, _⟩
          · have := Hi7.out; omega
          · injection h1 with h1
            exact ⟨g7, h1⟩
        obtain ⟨g7, rfl⟩ := hA7
        rw [Hi7.out] at S7 ⊢
        go_wp2_with fail
        refine (once_any g A n cap zs 40 _ S7.out.cur).mono ?_
        rintro e w8 ⟨o8, rfl, hc, hg'⟩
        replace S7 := Lib.hid (S7.out.draw hc hg')
        clear hc hg'
        cases o8
        · go_wp2
          go_roundw
          case rel => exact ⟨_, k + 1, ids', rfl, by go_num, by omega, Hi7.out, S7.out⟩
          case measure => simp [intOf]; omega
        · go_wp2_with fail
          refine (pick_any g A n cap zs w8.heap.size 3 3 [-1, 6, 7] _ (S7.out.cur.alloc _) (by have := S7.out.glt; omega) rfl (by decide) (by decide) (fun i hi => new_cells w8 [-1, 6, 7] 3 i hi)).mono ?_
          rintro e w9 ⟨y9, rfl, hx, hc, hg'⟩
          replace S7 := Lib.hid ((S7.out.alloc _).draw hc hg')
          clear hx hc hg'
          have hcl := S7.out.own
          rw [Hi7.out] at hcl
          have hce := hcl.cellAt k (by omega)
          rw [List.getElem?_map, List.getElem?_eq_getElem (by have := Hi7.out; omega), Option.map_some] at hce
          generalize ids'[k]'(by have := Hi7.out; omega) = zold at hce
          have hfz : w9.frozen? ⟨g7, k, none⟩ = false := (iv_owns (zs := ids') hcl (by have := Hi7.out; omega)).elim fun gx h => by
            obtain ⟨e, _, _, h⟩ := h
            injection e with e
            injection e with e
            subst e
            exact (h k (by have := Hi7.out; omega)).2 k
          clear hcl
          have S9 := Lib.hid (S7.out.put Hi7.out k y9)
          go_wp2
          go_roundw
          case rel => exact ⟨_, k + 1, ids'.set k y9, rfl, by go_num, by omega, by rw [List.length_set]; exact Hi7.out, S9.out⟩
          case measure => simp [intOf]; omega
      · have hlt' : ¬ (k : Int) < (p : Int) := by omega
        obtain ⟨A', cap', rfl⟩ := owns_form S.out.own
        go_wp2
        go_ret
        exact ⟨A', cap', ids, rfl, (iv_owns S.out.own).ints, by have := Hil.out; omega, S.out.bel⟩
    skip
end Go.Proofs.YtoknjofdpnjioaaDoor.Draw
