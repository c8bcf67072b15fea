/- The log that the model draws. -/
import Derived.Test.YtcgmeindiaaokaaDoorBeC
import Derived.Test.YtcgmeindiaaokaaDoorBeA
import Derived.Test.YtcgmeindiaaokaaDoorBdM
import Derived.Deep.DeepCutAuto
namespace Go.Proofs.YtcgmeindiaaokaaDoor.By
open Go.RowKit Go.Deep Base Rw

/-- Between two rounds: the log so far, and the cursor. -/
structure Lst (g : Nat) (A : Option Addr) (n cap : Nat) (zs : List Int) (w wr : World) (u : Value) (es : List Ev) : Prop where
  own : wr.ownsRow (g + 1) 41 3 u es.length (cellsE es)
  old : Below g w wr
  cur : Draw.Cur wr g A n cap zs
theorem Lst.far {g n cap : Nat} {A : Option Addr} {zs : List Int} {w wr : World} {u : Value} {es : List Ev} (h : Lst g A n cap zs w wr u es) : ∀ k, u.ownBlock = some k → g < k ∧ k < wr.heap.size := fun k e => by
  have := h.own.lt k e
  omega
theorem Lst.below {g n cap : Nat} {A : Option Addr} {zs : List Int} {w wr w2 : World} {u : Value} {es : List Ev} (h : Lst g A n cap zs w wr u es) (hb : Below wr.heap.size wr w2) : Lst g A n cap zs w w2 u es :=
  ⟨h.own.kept (grown_below hb none) (by cases u.ownBlock <;> simp), h.old.trans (hb.mono (by have := h.cur.lt; omega)), cur_below h.cur hb⟩
theorem Lst.drawn {g n cap : Nat} {A : Option Addr} {zs : List Int} {w wr w2 : World} {u : Value} {es : List Ev} (h : Lst g A n cap zs w wr u es) (hg : wr.grownBy w2 (some g)) (hc : Draw.Cur w2 g A n cap zs) : Lst g A n cap zs w w2 u es := by
  refine ⟨h.own.kept hg ?_, h.old.grown hg (by have := h.cur.lt; omega) (fun k e => by cases e; exact Nat.le_refl _), hc⟩
  cases e : u.ownBlock with
  | none => exact .inl rfl
  | some k => exact .inr (fun e2 => by have := (h.far k e).1; injection e2; omega)
theorem Lst.put {g n cap : Nat} {A : Option Addr} {zs : List Int} {w wr w2 : World} {u : Value} {es : List Ev} (h : Lst g A n cap zs w wr u es) {b : Nat} (hb : g < b) (hu : u.ownBlock ≠ some b) (hk : ∀ k, k ≠ b → w2.heap[k]? = wr.heap[k]?) (hg : wr.grownBy w2 (some b)) : Lst g A n cap zs w w2 u es :=
  ⟨h.own.kept hg (.inr hu), h.old.grown hg (by have := h.cur.lt; omega) (fun k e => by cases e; omega), cur_of_block h.cur fun k hk' => hk k (by omega)⟩
theorem Lst.step {g n cap : Nat} {A : Option Addr} {zs : List Int} {w wr w1 : World} {u v' : Value} {es : List Ev} {x : Ev} {o : Obj} (h : Lst g A n cap zs w wr u es) (hown : w1.ownsRow (g + 1) 41 3 v' (es.length + 1) (cellsE es ++ [.int .i64 x.1, .int .i64 x.2.1, .int .i64 x.2.2])) (hg : (wr.alloc o).grownBy w1 u.ownBlock) : Lst g A n cap zs w w1 v' (es ++ [x]) := by
  have hl := h.cur.lt
  refine ⟨?_, (h.old.alloc (by omega) o).grown hg (by simp; omega) (fun j e => by have := (h.far j e).1; omega), ?_⟩
  · rw [cellsE_append, List.length_append]
    exact hown
  · refine cur_of_block (h.cur.alloc o) fun k hk => hg.block k (by simp; omega) (fun e => by have := (h.far k e.symm).1; omega)

/-- A log is drawn. -/
def DrawnL (w : World) (e : Ending) (w' : World) : Prop :=
  ∃ es A c, e = .returned (.slice A es.length c) ∧ EV w' w.heap.size w'.heap.size A es ∧ es.length ≤ 2001 ∧ (es.length ≤ c ∧ c ≤ 9223372036854775807) ∧ Below w.heap.size w w'

set_option maxRecDepth 100000 in
set_option maxHeartbeats 4000000 in
theorem drawLog_any (A : Option Addr) (n cap : Nat) (zs : List Int) (w : World) (hn : zs.length = n) (hs : n ≤ 1048576) (hb : isB zs) (h : BI w A zs) :
    Calls Tryd.prog 32 #[.slice A n cap] w (DrawnL w) := by
  obtain ⟨i0, hi0, hz0, hz1, hz2⟩ := info_parts infoE
  have Hi0 := Lib.hid hi0
  have Hz0 := Lib.hid hz0
  have Hz1 := Lib.hid hz1
  have Hz2 := Lib.hid hz2
  have HN := Lib.hid (Draw.new_any A n cap zs w hn hs ⟨fun i hi => hb.at hi, fun hp => by
    obtain ⟨b, off, rfl, hc⟩ := h hp
    exact ⟨b, off, rfl, World.block_lt_of_cell? _ _ (hc 0 hp), hc⟩⟩)
  clear hi0 hz0 hz1 hz2 hn hb h
  go_enter Tryd.func32, Tryd.ntmps32
  go_wp2_with fail
  refine HN.out.mono ?_
  rintro e w1 ⟨rfl, hc1, b1⟩
  obtain ⟨g, hg⟩ : ∃ g, w.heap.size = g := ⟨_, rfl⟩
  have hg1 : g < w1.heap.size := by rw [← hg]; exact hc1.lt
  have L1 : Hid (Lst g A n cap zs w (w1.alloc (.cells #[] 41)) (.slice (some ⟨w1.heap.size, 0, none⟩) 0 0) []) := by
    refine ⟨?_, ?_, ?_⟩
    · have h := World.ownsRow_lit (base := g + 1) (e := 41) (size := 3) w1 #[] 0 (by omega) (by simp) (by simp)
      simpa [cellsE] using h
    · rw [hg] at b1
      exact b1.alloc (by omega) _
    · rw [← hg]
      exact hc1.alloc _
  rw [hg]
  clear hc1 b1 HN
  go_wp2_with fail
  refine (size_any A n cap _ hs).mono ?_
  rintro e _ ⟨⟨x, rfl, x0, x1⟩, rfl⟩
  go_wp2_with fail
  refine (Draw.below_any g A n cap zs x _ L1.out.cur).mono ?_
  rintro e w3 ⟨m0, rfl, hm0, hc3, hg3⟩
  have L3 := Lib.hid (L1.out.drawn hg3 hc3)
  obtain ⟨m00, m01⟩ := hm0.2 (by omega)
  clear hm0 hc3 hg3 L1
  go_wp2_with fail
  refine (Draw.once_any g A n cap zs 60 _ L3.out.cur).mono ?_
  rintro e w4 ⟨b, rfl, hc4, hg4⟩
  have L4 := Lib.hid (L3.out.drawn hg4 hc4)
  clear hc4 hg4 L3
  go_upto_if 16 with fail
  go_cut [5] (fun nv wx => ∃ m : Int, nv = .int .i64 m ∧ 0 ≤ m ∧ m ≤ 2001 ∧ Hid (Lst g A n cap zs w wx (.slice (some ⟨w1.heap.size, 0, none⟩) 0 0) []))
  case first =>
    cases b
    · go_wp2_with fail
      go_meet
      exact ⟨m0, rfl, m00, by omega, L4⟩
    · go_wp2_with fail
      refine (Draw.below_any g A n cap zs 2 _ L4.out.cur).mono ?_
      rintro e w5 ⟨y, rfl, hy, hc5, hg5⟩
      have L5 := Lib.hid (L4.out.drawn hg5 hc5)
      obtain ⟨y0, y1⟩ := hy.2 (by omega)
      clear hc5 hg5 L4 hy
      go_wp2_with fail
      go_meet
      exact ⟨2000 + y, rfl, by omega, by omega, L5⟩
  case rest =>
    clear L4
    obtain ⟨m, rfl, hm0, hm1, L4⟩ := hcut
    obtain ⟨m, rfl⟩ : ∃ k : Nat, m = (k : Int) := ⟨m.toNat, by omega⟩
    clear m00 m01
    go_wp2_with fail
    go_loopw [4, 6] (fun v i wr => ∃ (u : Value) (es : List Ev), u = v ∧ i = .int .i64 es.length ∧ es.length ≤ m ∧ Hid (Lst g A n cap zs w wr u es)) (fun _ i _ => m - (intOf i).toNat)
    case atStart => exact ⟨_, [], rfl, rfl, Nat.zero_le _, L4⟩
    case round =>
      clear L4
      obtain ⟨u, es, rfl, rfl, hl, LR⟩ := hrel
      obtain ⟨Av, cv, hform⟩ := owns_form LR.out.own
      subst hform
      by_cases hlt : es.length < m
      · go_wp2_with fail
        refine (drawEvent_any g A n cap zs _ LR.out.cur).mono ?_
        rintro e w2 ⟨⟨s0, s1, s2⟩, rfl, hc2, hg2⟩
        have L2 := Lib.hid (LR.out.drawn hg2 hc2)
        have LA := Lib.hid (L2.out.below (bel_alloc w2 (.cells #[.int .i64 s0, .int .i64 s1, .int .i64 s2] 41)))
        have XA := Lib.hid (Bv.new w2 (s0, s1, s2))
        have hge : g < w2.heap.size := L2.out.cur.lt
        have hob : Hid ((Value.slice Av es.length cv).ownBlock ≠ some w2.heap.size) := fun e => by have := (L2.out.far _ e).2; omega
        clear hg2 hc2 LR L2
        go_wp2_with fail
        refine (specPutE_any (s0, s1, s2) _).mono ?_
        rintro e w3 ⟨A1, c1, rfl, _, b3, _⟩
        have L3 := Lib.hid (LA.out.below b3)
        have X3 := Lib.hid (XA.out.below b3)
        have hz3 := L3.out.cur.lt
        clear b3 LA XA
        generalize putE (s0, s1, s2) = q
        by_cases h0 : q.length = 0
        · have h0' : ((q.length : Int) == 0) = true := by rw [h0]; rfl
          clear h0
          go_wp2_with fail
          refine (Draw.once_any g A n cap zs 20 _ L3.out.cur).mono ?_
          rintro e w4 ⟨bo, rfl, hc4, hg4⟩
          have L4 := Lib.hid (L3.out.drawn hg4 hc4)
          have X4 := Lib.hid (X3.out.grown hg4 hge)
          have hz4 := L4.out.cur.lt
          clear hg4 hc4 L3 X3
          cases bo
          · obtain ⟨t0, t1, t2, f0, f1, f2⟩ := X4.out.cells
            obtain ⟨W5, hW5, hB, hk, hsz, hgr⟩ := X4.out.put 0 0 0
            obtain ⟨u0, u1, u2, _, _, _⟩ := hB.cells
            have L5 : Hid (Lst g A n cap zs w W5 (.slice Av es.length cv) es) := L4.out.put hge hob.out hk ⟨by rw [← hW5]; rfl, by rw [← hW5]; rfl, by rw [← hW5]; rfl, by omega, fun k hk1 hne => hk k (fun e => hne (by rw [e]))⟩
            have hz5 := L5.out.cur.lt
            clear hB hk hgr X4 L4 hob hsz
            go_wp2_with (at_builtin; refine wpList_append_own _ rfl _ _ 24 rfl (g + 1) 41 i0 (.agg #[.int .i64 0, .int .i64 0, .int .i64 0]) 3 24 Tryd.underlying24 Hi0.out Hz0.out Hz1.out Hz2.out rfl (by decide) _ _ _ rfl (L5.out.own.alloc _) ⟨W5.heap.size, 0, none⟩ 1 1 [.int .i64 0, .int .i64 0, .int .i64 0] rfl rfl ?c1h ?c2h ?c3h ?c4h ?c5h ?_)
            case c1h => exact news3 rfl (0, 0, 0) _
            case c2h => simp [Value.oneCell']
            case c3h => unfold maxLen; omega
            case c4h => omega
            case c5h => first | omega | (simp; omega) | simp
            · intro v' wf hown hgr _
              have HQ := Lib.hid (L5.out.step (x := (0, 0, 0)) hown hgr)
              clear hown hgr
              go_wp2
              go_roundw
              case rel => exact ⟨_, _, rfl, by simp, by rw [List.length_append]; exact hlt, HQ⟩
              case measure => first | (simp [intOf]; done) | (simp [intOf]; omega)
          · obtain ⟨u0, u1, u2, _, _, _⟩ := X4.out.cells
            clear X4 hob
            go_wp2_with (at_builtin; refine wpList_append_own _ rfl _ _ 24 rfl (g + 1) 41 i0 (.agg #[.int .i64 0, .int .i64 0, .int .i64 0]) 3 24 Tryd.underlying24 Hi0.out Hz0.out Hz1.out Hz2.out rfl (by decide) _ _ _ rfl (L4.out.own.alloc _) ⟨w4.heap.size, 0, none⟩ 1 1 [.int .i64 s0, .int .i64 s1, .int .i64 s2] rfl rfl ?c1h ?c2h ?c3h ?c4h ?c5h ?_)
            case c1h => exact news3 rfl (s0, s1, s2) _
            case c2h => simp [Value.oneCell']
            case c3h => unfold maxLen; omega
            case c4h => omega
            case c5h => first | omega | (simp; omega) | simp
            · intro v' wf hown hgr _
              have HQ := Lib.hid (L4.out.step (x := (s0, s1, s2)) hown hgr)
              clear hown hgr
              go_wp2
              go_roundw
              case rel => exact ⟨_, _, rfl, by simp, by rw [List.length_append]; exact hlt, HQ⟩
              case measure => first | (simp [intOf]; done) | (simp [intOf]; omega)
        · have h0' : ((q.length : Int) == 0) = false := by simp; intro e; rw [e] at h0; exact h0 rfl
          clear h0
          obtain ⟨u0, u1, u2, _, _, _⟩ := X3.out.cells
          clear X3 hob
          go_wp2_with (at_builtin; refine wpList_append_own _ rfl _ _ 24 rfl (g + 1) 41 i0 (.agg #[.int .i64 0, .int .i64 0, .int .i64 0]) 3 24 Tryd.underlying24 Hi0.out Hz0.out Hz1.out Hz2.out rfl (by decide) _ _ _ rfl (L3.out.own.alloc _) ⟨w3.heap.size, 0, none⟩ 1 1 [.int .i64 s0, .int .i64 s1, .int .i64 s2] rfl rfl ?c1h ?c2h ?c3h ?c4h ?c5h ?_)
          case c1h => exact news3 rfl (s0, s1, s2) _
          case c2h => simp [Value.oneCell']
          case c3h => unfold maxLen; omega
          case c4h => omega
          case c5h => first | omega | (simp; omega) | simp
          · intro v' wf hown hgr _
            have HQ := Lib.hid (L3.out.step (x := (s0, s1, s2)) hown hgr)
            clear hown hgr
            go_wp2
            go_roundw
            case rel => exact ⟨_, _, rfl, by simp, by rw [List.length_append]; exact hlt, HQ⟩
            case measure => first | (simp [intOf]; done) | (simp [intOf]; omega)
      · have LF := Lib.hid LR.out.own
        have BF : Hid (Below w.heap.size w wr) := by rw [hg]; exact LR.out.old
        have hcap := owns_cap LR.out.own
        have hev : Hid (EV wr w.heap.size wr.heap.size Av es) := (ev_owns LR.out.own).wide (by omega) (Nat.le_refl _)
        clear LR LF
        go_wp2
        go_ret
        exact ⟨es, Av, cv, rfl, hev.out, by omega, hcap, BF.out⟩
end Go.Proofs.YtcgmeindiaaokaaDoor.By
