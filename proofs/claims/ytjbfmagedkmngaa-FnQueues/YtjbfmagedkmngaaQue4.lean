/- What spec.l01Has answers; rows of integers that a call has made by append. -/
import Derived.Test.YtjbfmagedkmngaaQue3
import Derived.Test.YtjbfmagedkmngaaQMath2
import Derived.Test.YtjbfmagedkmngaaTick1
namespace Go.Proofs.Ytjbfmagedkmngaa.Que
open Go.RowKit Go.Deep Base

theorem owns_form {w : World} {base : Nat} {e : TypeId} {size n : Nat} {v : Value} {xs : List Value} (h : w.ownsRow base e size v n xs) : ∃ A cap, v = .slice A n cap := by
  rcases h.2 with ⟨rfl, rfl⟩ | ⟨g, cap, _, rfl, _⟩
  · exact ⟨none, 0, rfl⟩
  · exact ⟨_, cap, rfl⟩

theorem ints_owns {w : World} {base : Nat} {e : TypeId} {A : Option Addr} {n cap : Nat} {zs : List Int} (h : w.ownsRow base e 1 (.slice A n cap) n (zs.map (Value.int .i64))) : Ints w A zs := by
  intro hp
  have hl := h.1
  simp at hl
  rcases h.2 with ⟨hv, hn⟩ | ⟨g, cap', cur, hv, _, _⟩
  · omega
  · injection hv with hA _ _
    subst hA
    refine ⟨g, 0, rfl, fun i hi => ?_⟩
    have hc : w.ownsRow base e 1 (.slice (some ⟨g, 0, none⟩) n cap) n (zs.map (Value.int .i64)) := h
    have := hc.cellAt i (by omega)
    rw [Nat.zero_add, this]
    simp [hi]

set_option maxHeartbeats 400000 in
theorem has_any (A : Option Addr) (n cap : Nat) (zs : List Int) (x : Int) (w : World) (hn : zs.length = n) (hm : n ≤ 1048576) (h : Ints w A zs) :
    Calls Try.prog 51 #[.slice A n cap, .int .i64 x] w fun e w' => e = .returned (.bool (zs.contains x)) ∧ w = w' := by
  have Hn := Lib.hid hn
  clear hn
  have HI := Lib.hid h
  clear h
  go_enter Try.func51, Try.ntmps51
  go_wp2
  go_loop [5] (fun i => ∃ k : Nat, k ≤ n ∧ i = .int .i64 k ∧ (zs.take k).contains x = false) (fun i => n - (intOf i).toNat)
  case atStart => exact ⟨0, Nat.zero_le _, rfl, by simp⟩
  case round =>
    obtain ⟨k, hk, rfl, hq⟩ := hrel
    have Hq := Lib.hid hq
    clear hq
    by_cases hlt : k < n
    · obtain ⟨b, off, rfl, hc⟩ := HI.out (by have := Hn.out; omega)
      have hck := hc k (by have := Hn.out; omega)
      clear hc
      have Ht : Hid (zs.take (k + 1) = zs.take k ++ [zs.getD k 0]) := by
        have hk' : k < zs.length := by have := Hn.out; omega
        show _ = _
        rw [List.take_succ_eq_append_getElem hk']; simp [List.getD_eq_getElem?_getD, hk']
      have Hm : Hid (zs.getD k 0 ∈ zs) := by
        have hk' : k < zs.length := by have := Hn.out; omega
        show _ ∈ _
        simp [List.getD_eq_getElem?_getD, hk']
      generalize zs.getD k 0 = z at hck Ht Hm
      by_cases he : z = x
      · subst he
        go_wp2
        go_ret
        exact ⟨ret_bool (by simpa using Hm.out), rfl⟩
      · have hb : (z == x) = false := beq_eq_false_iff_ne.2 he
        have Hq' : Hid ((zs.take (k + 1)).contains x = false) := by
          have h1 := Hq.out
          have h2 := Ht.out
          show _ = _
          rw [h2]
          simp at h1 ⊢
          exact ⟨h1, fun h => he h.symm⟩
        go_wp2
        go_round
        case rel => exact ⟨k + 1, by omega, by go_num, Hq'.out⟩
        case measure => simp [intOf]; omega
    · go_wp2
      go_ret
      refine ⟨ret_bool ?_, rfl⟩
      have e : zs.take k = zs := List.take_of_length_le (by have := Hn.out; omega)
      have := Hq.out
      rw [e] at this
      simpa using this
end Go.Proofs.Ytjbfmagedkmngaa.Que
