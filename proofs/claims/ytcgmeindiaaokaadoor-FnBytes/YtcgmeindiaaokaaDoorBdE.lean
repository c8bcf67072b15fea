/- slices.Equal of bytes; slices.Backward and the iterator that it makes. -/
import Derived.Test.YtcgmeindiaaokaaDoorByP
import Derived.Test.YtcgmeindiaaokaaDoorRng1
import Derived.Shelf.Abstract
import Derived.OwnWalkIn
import Derived.TacticsInMore
import Derived.LoopNIn
import Derived.LoopIn
import Derived.Sort.LoopGhostIn
namespace Go.Proofs.YtcgmeindiaaokaaDoor.By
open Go.RowKit Go.Deep Base Rw Rng
attribute [local go_sem] Oper.semAt_some

set_option maxRecDepth 100000 in
set_option maxHeartbeats 1000000 in
theorem equal_any (A1 A2 : Option Addr) (n1 c1 n2 c2 : Nat) (xs ys : List Int) (w : World) (h1 : xs.length = n1) (h2 : ys.length = n2) (hm1 : n1 ≤ 1048576) (hm2 : n2 ≤ 1048576) (hx : BI w A1 xs) (hy : BI w A2 ys) :
    Calls Tryd.prog 56 #[.slice A1 n1 c1, .slice A2 n2 c2] w fun e w' => e = .returned (.bool (decide (xs = ys))) ∧ Below w.heap.size w w' := by
  have H1 := Lib.hid h1
  have H2 := Lib.hid h2
  have HX := Lib.hid hx
  have HY := Lib.hid hy
  clear h1 h2 hx hy
  by_cases hne : n1 = n2
  · subst hne
    go_enter Tryd.func56, Tryd.ntmps56
    go_wp2
    go_loopw [13] (fun i wr => ∃ k : Nat, k ≤ n1 ∧ i = .int .i64 k ∧ Hid (xs.take k = ys.take k) ∧ Below w.heap.size w wr) (fun i _ => n1 - (intOf i).toNat)
    case atStart => exact ⟨0, Nat.zero_le _, rfl, rfl, Below.refl _ _⟩
    case round =>
      obtain ⟨k, hk, rfl, He, hr⟩ := hrel
      by_cases hlt : k < n1
      · obtain ⟨b, off, rfl, hc⟩ := HX.out.below hr (by have := H1.out; omega)
        have hc1 := hc k (by have := H1.out; omega)
        clear hc
        obtain ⟨b', off', rfl, hc⟩ := HY.out.below hr (by have := H2.out; omega)
        have hc2 := hc k (by have := H2.out; omega)
        clear hc
        have Hr := Lib.hid hr
        clear hr
        obtain ⟨x, hx⟩ : ∃ x, xs.getD k 0 = x := ⟨_, rfl⟩
        obtain ⟨y, hy⟩ : ∃ y, ys.getD k 0 = y := ⟨_, rfl⟩
        rw [hx] at hc1
        rw [hy] at hc2
        have hx' : xs[k]? = some x := by rw [← hx]; simp [List.getD_eq_getElem?_getD, show k < xs.length by have := H1.out; omega]
        have hy' : ys[k]? = some y := by rw [← hy]; simp [List.getD_eq_getElem?_getD, show k < ys.length by have := H2.out; omega]
        by_cases hxy : x = y
        · have He2 : Hid (xs.take (k + 1) = ys.take (k + 1)) := by
            show _ = _
            rw [List.take_add_one, List.take_add_one, He.out, hx', hy', hxy]
          subst hxy
          clear hx hy hx' hy' He
          go_wp2
          go_region
          all_goals
            go_wp2
            go_roundw
            case rel => exact ⟨k + 1, by omega, by go_num, He2, by repeat (first | exact Hr.out | apply Below.drew)⟩
            case measure => simp [intOf]; omega
        · have He2 : Hid (decide (xs = ys) = false) := by
            show _ = _
            rw [decide_eq_false_iff_not]
            intro e
            rw [e, hy'] at hx'
            injection hx' with e1
            exact hxy e1.symm
          have hxy' : (x != y) = true := bne_iff_ne.2 hxy
          clear hx hy hx' hy' He
          go_wp2
          go_region
          all_goals
            go_wp2
            go_ret
            exact ⟨ret_bool He2.out.symm, by repeat (first | exact Hr.out | apply Below.drew)⟩
      · obtain rfl : k = n1 := by omega
        have He2 : Hid (decide (xs = ys) = true) := by
          show _ = _
          have := He.out
          rw [List.take_of_length_le (by have := H1.out; omega), List.take_of_length_le (by have := H2.out; omega)] at this
          simp [this]
        go_wp2
        go_ret
        exact ⟨ret_bool He2.out.symm, hr⟩
  · have He2 : Hid (decide (xs = ys) = false) := by
      show _ = _
      rw [decide_eq_false_iff_not]
      intro e
      apply hne
      rw [← H1.out, ← H2.out, e]
    go_enter Tryd.func56, Tryd.ntmps56
    go_wp2
    go_ret
    exact ⟨ret_bool He2.out.symm, Below.refl _ _⟩

theorem back_any (A : Option Addr) (n cap : Nat) (w : World) :
    Calls Tryd.prog 55 #[.slice A n cap] w fun e w' => e = .returned (.func (.func 64) #[] #[.pointer (some ⟨w.heap.size, 0, none⟩)])
      ∧ w.alloc (.cells #[.slice A n cap] 22) = w' := by
  have hmf : ∀ (fn : Fn) (first cap : Array Value) (w : World), (Instr.makeFunc fn first cap).run Tryd.prog w = .ok (.func fn first cap) w := fun _ _ _ _ => rfl
  go_enter Tryd.func55, Tryd.ntmps55
  go_wp2
  go_ret
  exact ⟨rfl, rfl⟩

def bEnc (gs : List Int) (x : Nat) : Array Value := #[.int .i64 (x : Int), .int .u8 (gs.getD x 0)]
/-- What the iterator reads between two rounds: its box and the row; and the rounds are few. -/
structure BR (bb : Nat) (A : Option Addr) (cap : Nat) (gs : List Int) (pre : List Nat) (W : World) : Prop where
  box : W.cell? ⟨bb, 0, none⟩ = some (.slice A gs.length cap)
  row : BI W A gs
  few : pre.length ≤ gs.length
def BNx (n : Nat) (pre : List Nat) (x : Nat) : Prop := pre.length + x + 1 = n
def BS (n : Nat) (xs : List Nat) : Prop := xs.length = n

set_option maxRecDepth 100000 in
set_option maxHeartbeats 1000000 in
theorem back1_seq (bb : Nat) (A : Option Addr) (cap : Nat) (gs : List Int) (hm : gs.length ≤ 1048576) :
    SeqR Tryd.prog 64 #[.pointer (some ⟨bb, 0, none⟩)] (bEnc gs) (BR bb A cap gs) (BNx gs.length) (BS gs.length) := by
  intro lp J Jx W hJ hY h0
  have HJ := Lib.hid hJ
  have HY := Lib.hid hY
  clear hJ hY
  have hb0 := (HJ.out _ _ h0).box
  have H0 := Lib.hid h0
  clear h0
  obtain ⟨n, hn⟩ : ∃ n, gs.length = n := ⟨_, rfl⟩
  rw [hn] at hb0 HY hm ⊢
  have Hn := Lib.hid hn
  clear hn
  refine callsIn_of_wp Tryd.func64 rfl trivial ?_ rfl
  simp only [Tryd.ntmps64, List.size_toArray, List.length_cons, List.length_nil, Nat.reduceAdd, Nat.reduceSub, Array.replicate_succ, Array.replicate_zero, List.push_toArray, List.append_toArray, List.nil_append, List.cons_append]
  gi_wp2
  gi_loopg [3] (n + 1) (fun k p wr => ∃ pre, n + 1 ≤ k + pre.length ∧ pre.length ≤ n ∧ p = .int .i64 ((n : Int) - 1 - pre.length) ∧ J pre wr)
  case atStart => exact ⟨[], by simp, by simp, by simp, H0.out⟩
  case round =>
    obtain ⟨pre, hk, hpn, rfl, hj⟩ := hrel
    by_cases hend : pre.length = n
    · have Hj := Lib.hid hj
      clear hj
      have hng : ¬ ((0 : Int) ≤ (n : Int) - 1 - pre.length) := by omega
      gi_wp2
      go_end0
      exact ⟨⟨_, rfl⟩, .inl ⟨pre, hend, Hj.out⟩⟩
    · obtain ⟨x, hx⟩ : ∃ x : Nat, pre.length + x + 1 = n := ⟨n - 1 - pre.length, by omega⟩
      have hxi : (n : Int) - 1 - pre.length = (x : Int) := by omega
      have hR := HJ.out _ _ hj
      have hbx := hR.box
      rw [Hn.out] at hbx
      obtain ⟨b, off, hA, hc⟩ := hR.row (by have := Hn.out; omega)
      subst hA
      have hcx := hc x (by have := Hn.out; omega)
      obtain ⟨fn, tmps, assign, body, hy, hRd⟩ := HY.out pre x wr hj hx
      dsimp only [bEnc] at hy
      obtain ⟨y, hyy⟩ : ∃ y, gs.getD x 0 = y := ⟨_, rfl⟩
      rw [hyy] at hy hcx
      have Hk := Lib.hid hk
      have Hx := Lib.hid hx
      have hx0 : x < n := by omega
      clear hj hc hk hR hyy hpn hend hx
      rw [hxi]
      clear hxi
      gi_wp2
      refine hRd.mono ?_
      rintro e W2 (⟨rfl, hj2⟩ | ⟨rfl, hxx⟩)
      · have Hj2 := Lib.hid hj2
        clear hj2 hy hRd
        gi_wp2
        gi_roundg (gk - 1)
        case measure => have := Hk.out; have := Hx.out; omega
        case rel =>
          have := Hk.out
          have := Hx.out
          exact ⟨pre ++ [x], by simp; omega, by simp; omega, by simp; omega, Hj2.out⟩
      · have Hxx := Lib.hid hxx
        clear hxx hy hRd
        gi_wp2
        refine bodyPost_ret (v := .tuple #[]) (by simp [results, Tryd.results64]) rfl ?_
        exact ⟨⟨_, rfl⟩, .inr Hxx.out⟩
end Go.Proofs.YtcgmeindiaaokaaDoor.By
