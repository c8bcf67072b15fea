/- TakeEvent, of the program and of the reference. -/
import Derived.Test.YtcgmeindiaaokaaDoorBdV
import Derived.Test.YtcgmeindiaaokaaDoorBdN
namespace Go.Proofs.YtcgmeindiaaokaaDoor.By
open Go.RowKit Go.Deep Base Rw

theorem ansE_none {b : List Int} {at_ : Int} (h : takeE b at_ = none) : ansE b at_ = (zE, -1) := by unfold ansE; rw [h]; rfl
theorem ansE_some {b : List Int} {at_ m : Int} {s : Ev} (h : takeE b at_ = some (s, m)) : ansE b at_ = (s, m) := by unfold ansE; rw [h]; rfl
theorem ansN_fst {b : List Int} {at_ x m : Int} (h : takeN b at_ = some (x, m)) : (ansN b at_).1 = x ∧ (ansN b at_).2 = m := by unfold ansN; rw [h]; exact ⟨rfl, rfl⟩
theorem ansN_no {b : List Int} {at_ : Int} (h : takeN b at_ = none) : (ansN b at_).1 = 0 ∧ (ansN b at_).2 = -1 := by unfold ansN; rw [h]; exact ⟨rfl, rfl⟩

set_option maxRecDepth 100000 in
set_option maxHeartbeats 2000000 in
theorem implTakeE_any (A : Option Addr) (n cap : Nat) (zs : List Int) (at_ : Int) (pA pN : Addr) (w : World) (hn : zs.length = n) (hm : n ≤ 1048576) (hcap : n ≤ cap) (hcm : cap ≤ 9223372036854775807) (hb : isB zs) (h : BI w A zs) (ha : ErA pA w) (hp : ErN pN w) (ha0 : -9223372036854775808 ≤ at_) (ha1 : at_ ≤ 9223372036854775807) :
    Calls Tryd.prog 24 #[.slice A n cap, .int .i64 at_] w fun e w' => e = .returned (.tuple #[aggE (ansE zs at_).1, .int .i64 (ansE zs at_).2]) ∧ Below w.heap.size w w' := by
  have HE := Lib.hid (implEvent_any A n cap zs at_ pA pN (w.alloc (.cells #[.int .i64 0, .int .i64 0, .int .i64 0] 41)) hn hm hcap hcm hb (h.below (bel_alloc _ _)) (ha.below (bel_alloc _ _)) (hp.below (bel_alloc _ _)) ha0 ha1)
  have HX := Lib.hid (Bz.new w)
  clear hn hb h ha hp
  go_enter Tryd.func24, Tryd.ntmps24
  go_wp2_with fail
  refine HE.out.mono ?_
  clear HE
  have no : ∀ (p : Addr) (w1 : World), takeE zs at_ = none → Below (w.alloc (.cells #[.int .i64 0, .int .i64 0, .int .i64 0] 41)).heap.size (w.alloc (.cells #[.int .i64 0, .int .i64 0, .int .i64 0] 41)) w1 → Hid (ansE zs at_ = (zE, -1)) ∧ Hid (Bz (w1.alloc (.cells #[.int .i64 0, .int .i64 0, .int .i64 0] 41)) w.heap.size) ∧ Hid (Below w.heap.size w (w1.alloc (.cells #[.int .i64 0, .int .i64 0, .int .i64 0] 41))) := fun p w1 h0 b1 =>
    ⟨ansE_none h0, (HX.out.below b1).below (bel_alloc _ _), bel_trans (bel_trans (bel_alloc w _) b1) (bel_alloc w1 _)⟩
  rintro e w1 ⟨b1, (⟨s, m, hs, rfl⟩ | ⟨h0, _, rfl⟩ | ⟨h0, _, rfl⟩)⟩
  · obtain ⟨s0, s1, s2⟩ := s
    have He := Lib.hid (ansE_some hs)
    have HX1 : Hid (Bz (w1.alloc (.cells #[.int .i64 s0, .int .i64 s1, .int .i64 s2] 41)) w.heap.size) := (HX.out.below b1).below (bel_alloc _ _)
    have B1 : Hid (Below w.heap.size w (w1.alloc (.cells #[.int .i64 s0, .int .i64 s1, .int .i64 s2] 41))) := bel_trans (bel_trans (bel_alloc w _) b1) (bel_alloc w1 _)
    obtain ⟨u0, u1, u2, f0, f1, f2⟩ := HX1.out.cells
    obtain ⟨W', hW', q0, q1, q2, hbl⟩ := HX1.out.put s0 s1 s2
    have B3 := Lib.hid (hbl B1.out (Nat.le_refl _))
    clear b1 hs HX HX1 B1 hbl no
    go_wp2
    refine bodyPost_ret (v := .tuple #[aggE (s0, s1, s2), .int .i64 m]) (by simp [results, Tryd.results24, go_sem, q0, q1, q2]) rfl ?_
    exact ⟨by rw [He.out], B3.out⟩
  all_goals
    obtain ⟨He, HX1, B1⟩ := no pN w1 h0 b1
    obtain ⟨u0, u1, u2, f0, f1, f2⟩ := HX1.out.cells
    obtain ⟨W', hW', q0, q1, q2, hbl⟩ := HX1.out.put 0 0 0
    have B3 := Lib.hid (hbl B1.out (Nat.le_refl _))
    clear b1 h0 HX HX1 B1 hbl no
    go_wp2
    refine bodyPost_ret (v := .tuple #[aggE zE, .int .i64 (-1)]) (by simp [results, Tryd.results24, go_sem, zE, q0, q1, q2]) rfl ?_
    exact ⟨by rw [He.out], B3.out⟩

set_option maxRecDepth 100000 in
set_option maxHeartbeats 2000000 in
theorem specTakeE_any (A : Option Addr) (n cap : Nat) (zs : List Int) (at_ : Int) (w : World) (hn : zs.length = n) (hm : n ≤ 1048576) (hb : isB zs) (h : BI w A zs) (ha0 : -9223372036854775808 ≤ at_) (ha1 : at_ ≤ 9223372036854775807) :
    Calls Tryd.prog 23 #[.slice A n cap, .int .i64 at_] w fun e w' => e = .returned (.tuple #[aggE (ansE zs at_).1, .int .i64 (ansE zs at_).2]) ∧ Below w.heap.size w w' := by
  have HN : Hid (∀ (i : Int), -9223372036854775808 ≤ i → i ≤ 9223372036854775807 → Calls Tryd.prog 19 #[.slice A n cap, .int .i64 i] (w.alloc (.cells #[.int .i64 0, .int .i64 0, .int .i64 0] 41)) fun e w' => e = .returned (.tuple #[.int .i64 (ansN zs i).1, .int .i64 (ansN zs i).2]) ∧ w.alloc (.cells #[.int .i64 0, .int .i64 0, .int .i64 0] 41) = w') := fun i h0 h1 => specTakeN_any A n cap zs i _ hn hm hb (h.below (bel_alloc _ _)) h0 h1
  have Hn := Lib.hid hn
  have HB := Lib.hid hb
  have HI := Lib.hid h
  clear hn hb h
  have B1 := Lib.hid (bel_alloc w (.cells #[.int .i64 0, .int .i64 0, .int .i64 0] 41))
  obtain ⟨u0, u1, u2, f0, f1, f2⟩ := (Bz.new w).cells
  by_cases hout : at_ < 0 ∨ (n : Int) ≤ at_
  · have He := Lib.hid (ansE_none (takeE_no (b := zs) (at_ := at_) (by have := Hn.out; omega)))
    by_cases hneg : at_ < 0
    · go_enter Tryd.func23, Tryd.ntmps23
      go_wp2
      refine bodyPost_ret (v := .tuple #[aggE zE, .int .i64 (-1)]) (by simp [results, Tryd.results23, go_sem, zE]) rfl ?_
      exact ⟨by rw [He.out], bel_alloc _ _⟩
    · have hge : (n : Int) ≤ at_ := by omega
      go_enter Tryd.func23, Tryd.ntmps23
      go_wp2
      refine bodyPost_ret (v := .tuple #[aggE zE, .int .i64 (-1)]) (by simp [results, Tryd.results23, go_sem, zE]) rfl ?_
      exact ⟨by rw [He.out], bel_alloc _ _⟩
  · obtain ⟨a, rfl⟩ : ∃ a : Nat, at_ = (a : Int) := ⟨at_.toNat, by omega⟩
    have hlt : a < n := by omega
    obtain ⟨b, off, rfl, hc⟩ := HI.out (by have := Hn.out; omega)
    have hck := hc a (by have := Hn.out; omega)
    have hby := HB.out.at (i := a) (by have := Hn.out; omega)
    obtain ⟨k, hk⟩ : ∃ k, zs.getD a 0 = k := ⟨_, rfl⟩
    rw [hk] at hck hby
    have Hk := Lib.hid hk
    obtain ⟨k0, k1⟩ := hby
    have hck' : (w.alloc (.cells #[.int .i64 0, .int .i64 0, .int .i64 0] 41)).cell? ⟨b, off + a, none⟩ = some (.int .u8 k) := (B1.out.cell (World.block_lt_of_cell? _ _ hck)).trans hck
    clear hc hk hck
    by_cases h11 : 11 < k
    · have He := Lib.hid (ansE_none (takeE_no (b := zs) (at_ := (a : Int)) (by rw [Int.toNat_natCast, Hk.out]; omega)))
      go_enter Tryd.func23, Tryd.ntmps23
      go_wp2
      refine bodyPost_ret (v := .tuple #[aggE zE, .int .i64 (-1)]) (by simp [results, Tryd.results23, go_sem, zE]) rfl ?_
      exact ⟨by rw [He.out], bel_alloc _ _⟩
    · cases ht : takeN zs ((a : Int) + 1) with
      | none =>
        have He := Lib.hid (ansE_none (takeE_no1 ht))
        obtain ⟨e1, e2⟩ := ansN_no ht
        have HN1 := Lib.hid (HN.out ((a : Int) + 1) (by omega) (by omega))
        rw [e1, e2] at HN1
        clear HN e1 e2 ht
        go_enter Tryd.func23, Tryd.ntmps23
        go_wp2_with fail
        refine HN1.out.mono ?_
        rintro e w1 ⟨rfl, rfl⟩
        go_wp2
        refine bodyPost_ret (v := .tuple #[aggE zE, .int .i64 (-1)]) (by simp [results, Tryd.results23, go_sem, zE]) rfl ?_
        exact ⟨by rw [He.out], bel_alloc _ _⟩
      | some p =>
        obtain ⟨t, m⟩ := p
        have hs := takeN_some ht
        obtain ⟨e1, e2⟩ := ansN_fst ht
        have HN1 := Lib.hid (HN.out ((a : Int) + 1) (by omega) (by omega))
        rw [e1, e2] at HN1
        have HN2 := Lib.hid (HN.out m (by omega) (by have := Hn.out; omega))
        have hm0 : ¬ (m < 0) := by omega
        clear HN e1 e2
        cases hc2 : takeN zs m with
        | none =>
          have He := Lib.hid (ansE_none (takeE_no2 ht hc2))
          obtain ⟨e1, e2⟩ := ansN_no hc2
          rw [e1, e2] at HN2
          clear e1 e2 ht hc2
          go_enter Tryd.func23, Tryd.ntmps23
          go_wp2_with fail
          refine HN1.out.mono ?_
          rintro e w1 ⟨rfl, rfl⟩
          go_wp2_with fail
          refine HN2.out.mono ?_
          rintro e w1 ⟨rfl, rfl⟩
          go_wp2
          refine bodyPost_ret (v := .tuple #[aggE zE, .int .i64 (-1)]) (by simp [results, Tryd.results23, go_sem, zE]) rfl ?_
          exact ⟨by rw [He.out], bel_alloc _ _⟩
        | some p =>
          obtain ⟨c, m2⟩ := p
          have hs2 := takeN_some hc2
          have He := Lib.hid (ansE_some (takeE_yes (k := k) (by omega) (by have := Hn.out; omega) (by rw [Int.toNat_natCast]; exact Hk.out) (by omega) ht hc2))
          obtain ⟨e1, e2⟩ := ansN_fst hc2
          rw [e1, e2] at HN2
          have hm2 : ¬ (m2 < 0) := by omega
          clear e1 e2 ht hc2
          go_enter Tryd.func23, Tryd.ntmps23
          go_wp2_with fail
          refine HN1.out.mono ?_
          rintro e w1 ⟨rfl, rfl⟩
          go_wp2_with fail
          refine HN2.out.mono ?_
          rintro e w1 ⟨rfl, rfl⟩
          go_wp2
          refine bodyPost_ret (v := .tuple #[aggE (k, t, c), .int .i64 m2]) (by simp [results, Tryd.results23, go_sem]) rfl ?_
          exact ⟨by rw [He.out], bel_alloc _ _⟩
end Go.Proofs.YtcgmeindiaaokaaDoor.By
