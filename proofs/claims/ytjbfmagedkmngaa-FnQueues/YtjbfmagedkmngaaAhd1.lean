/- What AheadOf answers: the program's and the reference's. -/
import Derived.Test.YtjbfmagedkmngaaLst2
namespace Go.Proofs.Ytjbfmagedkmngaa.Que
open Go.RowKit Go.Deep Base

/-- The first place of a number in a row; -1 where it is not. -/
def idxI (zs : List Int) (id : Int) : Int := match zs.findIdx? (· == id) with
  | some i => (i : Int)
  | none => -1
theorem idxI_here {zs : List Int} {id : Int} {k : Nat} (hk : k < zs.length) (h : ∀ j, j < k → zs.getD j 0 ≠ id) (he : zs.getD k 0 = id) : idxI zs id = (k : Int) := by
  have : zs.findIdx? (· == id) = some k := by
    rw [List.findIdx?_eq_some_iff_getElem]
    refine ⟨hk, ?_, fun j hj => ?_⟩
    · rw [List.getD_eq_getElem?_getD, List.getElem?_eq_getElem hk] at he
      simpa using he
    · have := h j hj
      rw [List.getD_eq_getElem?_getD, List.getElem?_eq_getElem (by omega)] at this
      simpa using this
  unfold idxI; rw [this]
theorem idxI_not {zs : List Int} {id : Int} (h : ∀ j, j < zs.length → zs.getD j 0 ≠ id) : idxI zs id = -1 := by
  have : zs.findIdx? (· == id) = none := by
    rw [List.findIdx?_eq_none_iff]
    intro x hx
    obtain ⟨j, hj, rfl⟩ := List.getElem_of_mem hx
    have := h j hj
    rw [List.getD_eq_getElem?_getD, List.getElem?_eq_getElem hj] at this
    simpa using this
  unfold idxI; rw [this]

set_option maxHeartbeats 400000 in
theorem index_any (A : Option Addr) (n cap : Nat) (zs : List Int) (id : Int) (w : World) (hn : zs.length = n) (hm : n ≤ 1048576) (h : Ints w A zs) :
    Calls Try.prog 53 #[.slice A n cap, .int .i64 id] w fun e w' => e = .returned (.int .i64 (idxI zs id)) ∧ w = w' := by
  have Hn := Lib.hid hn
  clear hn
  have HI := Lib.hid h
  clear h
  go_enter Try.func53, Try.ntmps53
  go_wp2
  go_loop [8] (fun i => ∃ k : Nat, k ≤ n ∧ i = .int .i64 k ∧ ∀ j, j < k → zs.getD j 0 ≠ id) (fun i => n - (intOf i).toNat)
  case atStart => exact ⟨0, Nat.zero_le _, rfl, fun j hj => absurd hj (by omega)⟩
  case round =>
    obtain ⟨k, hk, rfl, hq⟩ := hrel
    have Hq := Lib.hid hq
    clear hq
    by_cases hlt : k < n
    · obtain ⟨b, off, rfl, hc⟩ := HI.out (by have := Hn.out; omega)
      have hc1 := hc k (by have := Hn.out; omega)
      clear hc
      generalize hz : zs.getD k 0 = z at hc1
      have Hz := Lib.hid hz
      clear hz
      by_cases he : id = z
      · have He := Lib.hid he
        have heb : (id == z) = true := by simpa using he
        clear he
        go_wp2
        go_ret
        exact ⟨by rw [idxI_here (by rw [Hn.out]; exact hlt) Hq.out (by rw [Hz.out, He.out])]; rfl, rfl⟩
      · have heb : (id == z) = false := by simpa using he
        have He := Lib.hid he
        clear he
        go_wp2
        go_round
        case rel =>
          refine ⟨k + 1, by omega, by go_num, fun j hj => ?_⟩
          by_cases e : j = k
          · subst e; rw [Hz.out]; exact fun e => He.out e.symm
          · exact Hq.out j (by omega)
        case measure => simp [intOf]; omega
    · obtain rfl : k = n := by omega
      go_wp2
      go_ret
      exact ⟨by rw [idxI_not (by rw [Hn.out]; exact Hq.out)]; rfl, rfl⟩

set_option maxRecDepth 100000 in
set_option maxHeartbeats 1000000 in
theorem implAhead_any (A : Option Addr) (n cap lo hi : Nat) (ss : List Sl) (f l r c id : Int) (w : World) (hn : ss.length = n) (h : SlV w lo hi A ss) (hhi : hi ≤ w.heap.size) :
    Calls Try.prog 24 #[.agg #[.slice A n cap, .int .i64 f, .int .i64 l, .int .i64 r, .int .i64 c], .int .i64 id] w fun e w' => e = .returned (.int .i64 (idxI (listA ss f l r c) id)) ∧ Below w.heap.size w w' := by
  have Hn := Lib.hid hn
  have HS := Lib.hid h
  have Hhi := Lib.hid hhi
  have Hf := Lib.hid (listA_few ss f l r c)
  clear h hn hhi
  go_enter Try.func24, Try.ntmps24
  go_wp2_with fail
  refine (implList_any A n cap lo hi ss f l r c _ Hn.out (HS.out.below (bel_alloc w _) Hhi.out) (by have := Hhi.out; simp; omega)).mono ?_
  rintro e w1 ⟨A1, c1, rfl, v1, b1⟩
  have V1 := Lib.hid v1
  have B1 := Lib.hid (bel_trans (bel_alloc w _) b1)
  clear v1 b1
  go_wp2_with fail
  refine (index_any A1 _ c1 _ id _ rfl (by have := Hf.out; omega) V1.out.ints).mono ?_
  rintro e w' ⟨rfl, rfl⟩
  go_wp2
  go_ret
  exact ⟨rfl, B1.out⟩

set_option maxRecDepth 100000 in
set_option maxHeartbeats 1000000 in
theorem specAhead_any (A : Option Addr) (n cap lo hi : Nat) (ss : List Sl) (f l r c id : Int) (w : World) (hn : ss.length = n) (hm : n ≤ 1048576) (h : SlV w lo hi A ss) (hhi : hi ≤ w.heap.size) :
    Calls Try.prog 41 #[.agg #[.slice A n cap, .int .i64 f, .int .i64 l, .int .i64 r, .int .i64 c], .int .i64 id] w fun e w' => e = .returned (.int .i64 (idxI (listA ss f l r c) id)) ∧ Below w.heap.size w w' := by
  have Hn := Lib.hid hn
  have HS := Lib.hid h
  have Hhi := Lib.hid hhi
  have hf := listA_few ss f l r c
  clear h hn hhi
  go_enter Try.func41, Try.ntmps41
  go_wp2_with fail
  refine (specList_any A n cap ss f l r c lo hi _ Hn.out hm (HS.out.below (bel_alloc w _) Hhi.out) (by have := Hhi.out; simp; omega)).mono ?_
  rintro e w1 ⟨A1, c1, rfl, v1, b1⟩
  have HI := Lib.hid v1.ints
  have B1 := Lib.hid (bel_trans (bel_alloc w _) b1)
  clear v1 b1
  obtain ⟨zs, hzs⟩ : ∃ zs, listA ss f l r c = zs := ⟨_, rfl⟩
  rw [hzs] at HI hf ⊢
  have Hzs := Lib.hid hzs
  clear hzs
  go_wp2_with fail
  go_loop [6] (fun i => ∃ k : Nat, k ≤ zs.length ∧ i = .int .i64 k ∧ ∀ j, j < k → zs.getD j 0 ≠ id) (fun i => zs.length - (intOf i).toNat)
  case atStart => exact ⟨0, Nat.zero_le _, rfl, fun j hj => absurd hj (by omega)⟩
  case round =>
    obtain ⟨k, hk, rfl, hq⟩ := hrel
    have Hq := Lib.hid hq
    clear hq
    by_cases hlt : k < zs.length
    · obtain ⟨b, off, rfl, hc⟩ := HI.out (by omega)
      have hc1 := hc k hlt
      clear hc
      generalize hz : zs.getD k 0 = z at hc1
      have Hz := Lib.hid hz
      clear hz
      by_cases he : z = id
      · have He := Lib.hid he
        have heb : (z == id) = true := by simpa using he
        clear he
        go_wp2
        go_ret
        exact ⟨by rw [Hzs.out, idxI_here hlt Hq.out (by rw [Hz.out, He.out])]; rfl, B1.out⟩
      · have heb : (z == id) = false := by simpa using he
        have He := Lib.hid he
        clear he
        go_wp2
        go_round
        case rel =>
          refine ⟨k + 1, by omega, by go_num, fun j hj => ?_⟩
          by_cases e : j = k
          · subst e; rw [Hz.out]; exact He.out
          · exact Hq.out j (by omega)
        case measure => simp [intOf]; omega
    · obtain rfl : k = zs.length := by omega
      go_wp2
      go_ret
      exact ⟨by rw [Hzs.out, idxI_not Hq.out]; rfl, B1.out⟩
end Go.Proofs.Ytjbfmagedkmngaa.Que
