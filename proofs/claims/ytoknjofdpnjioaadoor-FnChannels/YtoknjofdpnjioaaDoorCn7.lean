/- Watched: the program's and the reference's. -/
import Derived.Test.YtoknjofdpnjioaaDoorCn6
namespace Go.Proofs.YtoknjofdpnjioaaDoor.Cn
open Go.RowKit Go.Deep Base Rw

/-- Does the k-th event leave the state? -/
def leaves (es : List Int) (s : Int) (k : Nat) : Bool := (stAt es k == s) && (stAt es (k + 1) != s)

/-- The events among the first k that leave the state. -/
def watL (es : List Int) (s : Int) : Nat → List Int
  | 0 => []
  | k + 1 => if leaves es s k then watL es s k ++ [(k : Int)] else watL es s k
theorem wat_few (es : List Int) (s : Int) (k : Nat) : (watL es s k).length ≤ k := by
  induction k with
  | zero => simp [watL]
  | succ k ih =>
    simp only [watL]
    split
    · simp; omega
    · omega

def watR (es : List Int) (s : Int) : List Int := if 300 < es.length ∨ isS s = false then [] else watL es s es.length
theorem watR_few (es : List Int) (s : Int) : (watR es s).length ≤ 300 := by
  unfold watR
  split
  · simp
  · have := wat_few es s es.length
    omega

/-- Between two rounds: the row so far, beside the states. -/
structure WaSt (B : Nat) (W wr : World) (g n : Nat) (es : List Int) (v : Value) (ids : List Int) : Prop where
  st : ListSt B W wr v ids
  row : ∀ i, i ≤ n → wr.cell? ⟨g, i, none⟩ = some (.int .i64 (stAt es i))

set_option maxRecDepth 100000 in
set_option maxHeartbeats 1600000 in
theorem implWatched_any (A : Option Addr) (n cap : Nat) (es : List Int) (s : Int) (w : World) (hmv : Mvs w) (hn : es.length = n) (h : Ints w A es) :
    Calls Tryd.prog 19 #[.slice A n cap, .int .i64 s] w (NewI w (watR es s)) := by
  have HM := Lib.hid hmv
  have Hn := Lib.hid hn
  have HS := Lib.hid h
  have hlt : 1 < w.heap.size := World.block_lt_of_cell? _ _ (hmv 0 (by omega))
  clear hmv h hn
  go_enter Tryd.func19, Tryd.ntmps19
  by_cases hl : 300 < n
  · have e1 : Hid (watR es s = []) := Lib.hid (by unfold watR; rw [Hn.out, if_pos (.inl hl)])
    go_wp2_with fail
    go_ret
    exact ⟨none, 0, by rw [e1.out]; rfl, by rw [e1.out]; exact IV.nil _ _ _ _, Below.refl _ _⟩
  cases hs : isS s
  · have e1 : Hid (watR es s = []) := Lib.hid (by unfold watR; rw [if_pos (.inr hs)])
    go_wp2_with (go_at_call 32; refine (stateOk_at hs _).mono ?_; rintro r w1 ⟨rfl, hb1⟩)
    go_ret
    exact ⟨none, 0, by rw [e1.out]; rfl, by rw [e1.out]; exact IV.nil _ _ _ _, hb1⟩
  have E1 : Hid (watR es s = watL es s n) := Lib.hid (by unfold watR; rw [Hn.out, if_neg (by simp [hl, hs])])
  go_wp2_with (go_at_call 32; refine (stateOk_at hs _).mono ?_; rintro r wa ⟨rfl, hb1⟩)
  have Ba := Lib.hid hb1
  have za : w.heap.size ≤ wa.heap.size := hb1.size
  have H0 := Lib.hid (cht_new wa 57)
  clear hb1 hs
  obtain ⟨W0, hW0⟩ : ∃ W0, wa.alloc (.cells #[.int .u32 0, .int .i32 0, .int .u32 0, .int .i64 0, .int .i64 0, .int .i64 0, .int .i64 0, .int .i64 0, .int .i64 0, .int .i64 0, .int .i64 0, .int .i64 0, .int .i64 0, .int .i64 0, .int .i64 0, .int .i64 0, .int .i64 0, .int .i64 0, .int .i64 0, .int .i64 0, .int .i64 0, .int .i64 0, .int .i64 0, .int .i64 0, .int .i64 0, .int .i64 0, .int .i64 0, .int .i64 0, .int .i64 0, .int .i64 0, .int .i64 0, .int .i64 0, .int .i64 0, .int .i64 0, .int .i64 0, .int .i64 0, .int .i64 0, .int .i64 0] 57) = W0 := ⟨_, rfl⟩
  rw [hW0] at H0 ⊢
  have B0 : Hid (Below wa.heap.size wa W0) := by rw [← hW0]; exact bel_alloc _ _
  clear hW0
  have B := Lib.hid (bel_trans Ba.out B0.out)
  have z0 : wa.heap.size ≤ W0.heap.size := B0.out.size
  refine (history_any wa.heap.size A n cap es W0 H0.out (HM.out.below B.out) (by omega) Hn.out (by omega) (fun W ht => HS.out.below (B.out.trans (ht.below (by omega) (by omega))))).mono ?_
  rintro e w1 ⟨A1, c1, rfl, hc1, v1, t1⟩
  have z1 : W0.heap.size ≤ w1.heap.size := t1.size
  replace B := Lib.hid (B.out.trans (t1.below (by omega) (by omega)))
  clear t1 H0 B0 Ba
  obtain ⟨g, rfl, g1, g2, hri⟩ := v1 (by rw [hist_len]; omega)
  have HW : Hid (WaSt w1.heap.size w1 w1 g n es (.slice none 0 0) (watL es s 0)) := Lib.hid ⟨ListSt.nil w1, fun i hi => by
    have := (hri i (by rw [hist_len]; omega)).1
    rwa [hist_at es hi] at this⟩
  clear hri v1
  go_wp2
  go_loopw [7, 21] (fun v i wr => ∃ (u : Value) (k : Nat), u = v ∧ k ≤ n ∧ i = .int .i64 k ∧ WaSt w1.heap.size w1 wr g n es u (watL es s k)) (fun _ i _ => n - (intOf i).toNat)
  case atStart => exact ⟨_, 0, rfl, Nat.zero_le _, rfl, HW.out⟩
  case round =>
    obtain ⟨u, k, rfl, hk, rfl, hst⟩ := hrel
    have Hst := Lib.hid hst
    have z2 : w1.heap.size ≤ wr.heap.size := hst.st.old.size
    clear hst HW
    by_cases hlt : k < n
    · have c0 := Hst.out.row k (by omega)
      have c1 := Hst.out.row (k + 1) (by omega)
      have Hs : Hid (watL es s (k + 1) = if (stAt es k == s) && (stAt es (k + 1) != s) then watL es s k ++ [(k : Int)] else watL es s k) := Lib.hid rfl
      have hfew := wat_few es s k
      have hw1 : IntKind.i64.wrap ((k : Int) + 1) = (k : Int) + 1 := IntWalk.i64_in _ (by omega)
      generalize stAt es k = a at c0 Hs
      generalize stAt es (k + 1) = a' at c1 Hs
      generalize watL es s k = hl at Hst Hs hfew
      by_cases h1 : a = s
      · by_cases h2 : a' = s
        · have Hx : Hid (watL es s (k + 1) = hl) := Lib.hid (by rw [Hs.out, if_neg (by simp [h2])])
          subst h1
          subst h2
          go_wp2
          go_roundw
          case rel => exact ⟨_, k + 1, rfl, by omega, by go_num, by rw [Hx.out]; exact Hst.out⟩
          case measure => simp [intOf]; omega
        · have Hx : Hid (watL es s (k + 1) = hl ++ [(k : Int)]) := Lib.hid (by rw [Hs.out, if_pos (by simp [h1, h2])])
          subst h1
          obtain ⟨i0, hi0, hz0, hz1, hz2⟩ := info_parts infoInt
          have Hi0 := Lib.hid hi0
          have Hz0 := Lib.hid hz0
          have Hz1 := Lib.hid hz1
          have Hz2 := Lib.hid hz2
          have Hfew := Lib.hid hfew
          clear hi0 hz0 hz1 hz2 hfew
          go_wp2_with (at_builtin; refine wpList_append_own _ rfl _ _ 24 rfl w1.heap.size 3 i0 (.int .i64 0) 1 8 Tryd.underlying24 Hi0.out Hz0.out Hz1.out Hz2.out rfl (by decide) _ _ _ rfl (Hst.out.st.own.alloc _) ⟨wr.heap.size, 0, none⟩ 1 1 [.int .i64 (k : Int)] rfl rfl ?c1h ?c2h ?c3h ?c4h ?c5h ?_)
          case c1h => exact new_one_at rfl _ _
          case c2h => simp [Value.oneCell']
          case c3h => have := Hfew.out; unfold maxLen; omega
          case c4h => have := Hfew.out; omega
          case c5h => simp; omega
          · intro v' w4 hown hg _
            have hst1 := Hst.out.st.step rfl hown hg
            rw [← Hx.out] at hst1
            have HQ : Hid (WaSt w1.heap.size w1 w4 g n es v' (watL es a (k + 1))) := Lib.hid ⟨hst1, fun i hi => by
              have e1 := World.cell?_of_block (a := ⟨g, i, none⟩) (hst1.old.block g g2)
              have e2 := World.cell?_of_block (a := ⟨g, i, none⟩) (Hst.out.st.old.block g g2)
              rw [e1, ← e2]
              exact Hst.out.row i hi⟩
            clear hst1 hown hg
            go_wp2
            go_roundw
            case rel => exact ⟨_, k + 1, rfl, by omega, by go_num, HQ.out⟩
            case measure => simp [intOf]; omega
      · have Hx : Hid (watL es s (k + 1) = hl) := Lib.hid (by rw [Hs.out, if_neg (by simp [h1])])
        go_wp2
        go_roundw
        case rel => exact ⟨_, k + 1, rfl, by omega, by go_num, by rw [Hx.out]; exact Hst.out⟩
        case measure => simp [intOf]; omega
    · obtain rfl : k = n := by omega
      obtain ⟨A', cap', rfl⟩ := owns_form Hst.out.st.own
      go_wp2
      go_ret
      exact ⟨A', cap', by rw [E1.out]; rfl, by rw [E1.out]; exact (iv_owns Hst.out.st.own).wide (by omega) (Nat.le_refl _), B.out.trans (Hst.out.st.old.mono (by omega))⟩

set_option maxRecDepth 100000 in
set_option maxHeartbeats 1600000 in
theorem specWatched_any (A : Option Addr) (n cap : Nat) (es : List Int) (s : Int) (w : World) (hn : es.length = n) (h : Ints w A es) :
    Calls Tryd.prog 29 #[.slice A n cap, .int .i64 s] w (NewI w (watR es s)) := by
  have Hn := Lib.hid hn
  have HS := Lib.hid h
  clear h hn
  go_enter Tryd.func29, Tryd.ntmps29
  have L1 : Hid (ListSt w.heap.size w (w.alloc (.cells #[] 3)) (.slice (some ⟨w.heap.size, 0, none⟩) 0 0) (watL es s 0)) := Lib.hid (ListSt.empty w)
  by_cases hl : 300 < n
  · have e1 : Hid (watR es s = []) := Lib.hid (by unfold watR; rw [Hn.out, if_pos (.inl hl)])
    go_wp2_with fail
    go_ret
    exact ⟨none, 0, by rw [e1.out]; rfl, by rw [e1.out]; exact IV.nil _ _ _ _, bel_alloc _ _⟩
  cases hs : isS s
  · have e1 : Hid (watR es s = []) := Lib.hid (by unfold watR; rw [if_pos (.inr hs)])
    go_wp2_with (go_at_call 36; refine (specIn_at (x := s) (l := 0) (m := 4) hs _).mono ?_; rintro r w1 ⟨rfl, hb1⟩)
    go_ret
    exact ⟨none, 0, by rw [e1.out]; rfl, by rw [e1.out]; exact IV.nil _ _ _ _, bel_trans (bel_alloc _ _) hb1⟩
  have E1 : Hid (watR es s = watL es s n) := Lib.hid (by unfold watR; rw [Hn.out, if_neg (by simp [hl, hs])])
  go_wp2_with (go_at_call 36; refine (specIn_at (x := s) (l := 0) (m := 4) hs _).mono ?_; rintro r wa ⟨rfl, hb1⟩)
  replace L1 := Lib.hid (L1.out.keep (by simp) hb1)
  clear hb1 hs
  go_loopw [5, 6, 7] (fun v a i wr => ∃ (u x : Value) (k : Nat), u = v ∧ x = a ∧ k ≤ n ∧ x = .int .i64 (stAt es k) ∧ i = .int .i64 k ∧ ListSt w.heap.size w wr u (watL es s k)) (fun _ _ i _ => n - (intOf i).toNat)
  case atStart => exact ⟨_, _, 0, rfl, rfl, Nat.zero_le _, rfl, rfl, L1.out⟩
  case round =>
    obtain ⟨u, x, k, rfl, rfl, hk, rfl, rfl, hst⟩ := hrel
    have z1 : w.heap.size ≤ wr.heap.size := hst.old.size
    have Hst := Lib.hid hst
    clear hst L1
    by_cases hlt : k < n
    · obtain ⟨g, off, rfl, hc⟩ := HS.out.below Hst.out.old (by have := Hn.out; omega)
      have hck := hc k (by have := Hn.out; omega)
      clear hc
      have Hs : Hid (watL es s (k + 1) = if (stAt es k == s) && (stAt es (k + 1) != s) then watL es s k ++ [(k : Int)] else watL es s k) := Lib.hid rfl
      have Hs2 : Hid (stAt es (k + 1) = go (stAt es k) (es.getD k 0)) := Lib.hid rfl
      have Hfew := Lib.hid (wat_few es s k)
      generalize es.getD k 0 = z at hck Hs2
      generalize stAt es k = a at Hs Hs2
      have HSt := Lib.hid (fun w => specStep_any a z w)
      generalize go a z = a' at HSt Hs2
      rw [Hs2.out] at Hs
      generalize watL es s k = hl at Hst Hs Hfew
      obtain ⟨i0, hi0, hz0, hz1, hz2⟩ := info_parts infoInt
      have Hi0 := Lib.hid hi0
      have Hz0 := Lib.hid hz0
      have Hz1 := Lib.hid hz1
      have Hz2 := Lib.hid hz2
      clear hi0 hz0 hz1 hz2
      by_cases h1 : a' = a
      · have Hx : Hid (watL es s (k + 1) = hl) := Lib.hid (by rw [Hs.out, h1, if_neg (by by_cases e : a = s <;> simp [e])])
        have HSt' := Lib.hid (fun w => (show (a' != a) = false by simp [h1]) ▸ HSt.out w)
        clear HSt
        go_wp2_with fail
        refine (HSt'.out _).mono ?_
        rintro e w2 ⟨rfl, b2⟩
        replace Hst := Lib.hid (Hst.out.keep z1 b2)
        clear b2 hck
        go_wp2_with fail
        go_roundw
        case rel => exact ⟨_, _, k + 1, rfl, rfl, by omega, by rw [Hs2.out, h1], by go_num, by rw [Hx.out]; exact Hst.out⟩
        case measure => simp [intOf]; omega
      · have HSt' := Lib.hid (fun w => (show (a' != a) = true by simp [h1]) ▸ HSt.out w)
        clear HSt
        by_cases h2 : a = s
        · have Hx : Hid (watL es s (k + 1) = hl ++ [(k : Int)]) := Lib.hid (by rw [Hs.out, if_pos (by subst h2; simp [h1])])
          subst h2
          go_wp2_with fail
          refine (HSt'.out _).mono ?_
          rintro e w2 ⟨rfl, b2⟩
          replace Hst := Lib.hid (Hst.out.keep z1 b2)
          have z2 : wr.heap.size ≤ w2.heap.size := b2.size
          clear b2 hck
          go_wp2_with (at_builtin; refine wpList_append_own _ rfl _ _ 24 rfl w.heap.size 3 i0 (.int .i64 0) 1 8 Tryd.underlying24 Hi0.out Hz0.out Hz1.out Hz2.out rfl (by decide) _ _ _ rfl (Hst.out.own.alloc _) ⟨w2.heap.size, 0, none⟩ 1 1 [.int .i64 (k : Int)] rfl rfl ?c1h ?c2h ?c3h ?c4h ?c5h ?_)
          case c1h => exact new_one_at rfl _ _
          case c2h => simp [Value.oneCell']
          case c3h => have := Hfew.out; unfold maxLen; omega
          case c4h => have := Hfew.out; omega
          case c5h => simp; omega
          · intro v' w4 hown hg _
            have hst1 := Hst.out.step rfl hown hg
            rw [← Hx.out] at hst1
            have HQ := Lib.hid hst1
            clear hst1 hown hg
            go_wp2
            go_roundw
            case rel => exact ⟨_, _, k + 1, rfl, rfl, by omega, by rw [Hs2.out], by go_num, HQ.out⟩
            case measure => simp [intOf]; omega
        · have Hx : Hid (watL es s (k + 1) = hl) := Lib.hid (by rw [Hs.out, if_neg (by simp [h2])])
          go_wp2_with fail
          refine (HSt'.out _).mono ?_
          rintro e w2 ⟨rfl, b2⟩
          replace Hst := Lib.hid (Hst.out.keep z1 b2)
          clear b2 hck
          go_wp2_with fail
          go_roundw
          case rel => exact ⟨_, _, k + 1, rfl, rfl, by omega, by rw [Hs2.out], by go_num, by rw [Hx.out]; exact Hst.out⟩
          case measure => simp [intOf]; omega
    · obtain rfl : k = n := by omega
      obtain ⟨A', cap', rfl⟩ := owns_form Hst.out.own
      go_wp2
      go_ret
      exact ⟨A', cap', by rw [E1.out]; rfl, by rw [E1.out]; exact iv_owns Hst.out.own, Hst.out.old⟩
end Go.Proofs.YtoknjofdpnjioaaDoor.Cn
