/- The laws' helpers that the law on queues calls: big, at, within, same. -/
import Derived.Test.YtjbfmagedkmngaaQx2
import Derived.Test.YtjbfmagedkmngaaInt2
namespace Go.Proofs.Ytjbfmagedkmngaa.Que
open Go.RowKit Go.Deep Base Rng

/-- The bytes zs lie at A. -/
def Bts (w : World) (A : Option Addr) (zs : List Int) : Prop :=
  (∀ i, i < zs.length → 0 ≤ zs.getD i 0 ∧ zs.getD i 0 ≤ 255) ∧ (0 < zs.length → ∃ b off, A = some ⟨b, off, none⟩ ∧ ∀ i, i < zs.length → w.cell? ⟨b, off + i, none⟩ = some (.int .u8 (zs.getD i 0)))
theorem Bts.below {w w' : World} {A : Option Addr} {zs : List Int} (h : Bts w A zs) (hb : Below w.heap.size w w') : Bts w' A zs :=
  ⟨h.1, fun hp => by
    obtain ⟨b, off, rfl, hc⟩ := h.2 hp
    exact ⟨b, off, rfl, fun i hi => (hb.cell (World.block_lt_of_cell? _ _ (hc i hi))).trans (hc i hi)⟩⟩
theorem bts_of {w : World} {a : Option Addr} {len cap : Nat} {zs : List Int} (h : IsRow .u8 w a len cap zs) : Bts w a (zs.take len) := by
  have hl := h.len.2.2
  rcases h with ⟨rfl, rfl, rfl, rfl⟩ | ⟨x, rfl, hl', hm, hz, hcell, hwf⟩
  · exact ⟨fun i hi => by simp at hi, fun hp => by simp at hp⟩
  · refine ⟨fun i hi => ?_, fun hp => ?_⟩
    · have hi' : i < zs.length := by omega
      have e : (zs.take len).getD i 0 = zs[i] := by simp [List.getD_eq_getElem?_getD, hi', show i < len by omega]
      rw [e]
      exact bounds_u8 (hwf _ (List.getElem_mem hi'))
    · have hne : 0 < zs.length := by omega
      obtain ⟨b, off, spot⟩ := x
      have h0 := hcell 0 hne
      have hs : spot = none := by simpa [Addr.add] using World.cell?_spot h0
      subst hs
      refine ⟨b, off, rfl, fun i hi => ?_⟩
      have hi' : i < zs.length := by omega
      have := hcell i hi'
      rw [Addr.add_mid] at this
      rw [this]
      simp [List.getD_eq_getElem?_getD, show i < len by omega]

theorem big_any (A : Option Addr) (n cap : Nat) (w : World) (hm : n ≤ maxLen) : Calls Try.prog 13 #[.slice A n cap] w fun e w' => e = .returned (.bool (decide (1048576 < n))) ∧ w = w' := by
  unfold maxLen at hm
  go_enter Try.func13, Try.ntmps13
  go_wp2
  go_ret
  exact ⟨ret_bool (by simp; omega), rfl⟩

theorem at_any (A : Option Addr) (n cap : Nat) (zs : List Int) (k : Nat) (hk : k ≤ 1000) (w : World) (hn : zs.length = n) (hs : n ≤ 1048576) (hb : Bts w A zs) :
    Calls Try.prog 15 #[.slice A n cap, .int .i64 k] w fun e w' => (∃ x, e = .returned (.int .i64 x) ∧ 0 ≤ x ∧ x ≤ 255) ∧ w = w' := by
  have HB := Lib.hid hb
  have HN := Lib.hid hn
  clear hb hn
  by_cases h0 : k < n
  · obtain ⟨b, off, rfl, hcb⟩ := HB.out.2 (by have := HN.out; omega)
    have hz := HB.out.1 k (by have := HN.out; omega)
    have cz := hcb k (by have := HN.out; omega)
    clear hcb
    generalize zs.getD k 0 = z at hz cz
    obtain ⟨z0, z1⟩ := hz
    have h0' : (k : Int) < (n : Int) := by omega
    have hk0 : (0 : Int) ≤ (k : Int) := by omega
    go_enter Try.func15, Try.ntmps15
    go_wp2
    go_ret
    exact ⟨⟨z, rfl, z0, by omega⟩, rfl⟩
  · have h0' : ¬ (k : Int) < (n : Int) := by omega
    have hm : 0 ≤ ((k : Int) * 13 + (n : Int) * 5).tmod 256 ∧ ((k : Int) * 13 + (n : Int) * 5).tmod 256 ≤ 255 := by
      rw [Int.tmod_eq_emod_of_nonneg (by omega)]; omega
    go_enter Try.func15, Try.ntmps15
    go_wp2
    go_ret
    exact ⟨⟨_, rfl, by omega, by omega⟩, rfl⟩

set_option maxHeartbeats 400000 in
theorem within_any (A : Option Addr) (n cap : Nat) (L : List Int) (x : Int) (w : World) (hn : L.length = n) (hm : n ≤ 1048576) (h : Ints w A L) :
    Calls Try.prog 17 #[.slice A n cap, .int .i64 x] w fun e w' => e = .returned (.bool (decide (x ∈ L))) ∧ Below w.heap.size w w' := by
  have Hn := Lib.hid hn
  have HI := Lib.hid h
  clear hn h
  go_enter Try.func17, Try.ntmps17
  go_wp2
  go_loop [5] (fun i => ∃ k : Nat, k ≤ n ∧ i = .int .i64 k ∧ ∀ j, j < k → L.getD j 0 ≠ x) (fun i => n - (intOf i).toNat)
  case atStart => exact ⟨0, Nat.zero_le _, rfl, fun j hj => absurd hj (by omega)⟩
  case round =>
    obtain ⟨k, hk, rfl, hno⟩ := hrel
    have Hno := Lib.hid hno
    clear hno
    by_cases hlt : k < n
    · obtain ⟨b, off, rfl, hc⟩ := HI.out (by have := Hn.out; omega)
      have hck := hc k (by have := Hn.out; omega)
      clear hc
      obtain ⟨z, hz⟩ : ∃ z, L.getD k 0 = z := ⟨_, rfl⟩
      rw [hz] at hck
      have Hz := Lib.hid hz
      clear hz
      by_cases hzx : z = x
      · have Hm : Hid (x ∈ L) := by
          show x ∈ L
          rw [← hzx, ← Hz.out, List.getD_eq_getElem?_getD, List.getElem?_eq_getElem (by have := Hn.out; omega)]
          exact List.getElem_mem _
        subst hzx
        go_wp2
        go_ret
        exact ⟨ret_bool (decide_eq_true Hm.out).symm, Below.refl _ _⟩
      · have e1 : (z == x) = false := by simpa using hzx
        have Hzx : Hid (z ≠ x) := hzx
        clear hzx
        go_wp2
        go_round
        case rel =>
          refine ⟨k + 1, by omega, by go_num, fun j hj => ?_⟩
          by_cases e : j = k
          · subst e; rw [Hz.out]; exact Hzx.out
          · exact Hno.out j (by omega)
        case measure => simp [intOf]; omega
    · have Hm : Hid (x ∉ L) := by
        show x ∉ L
        intro hm
        obtain ⟨j, hj, e⟩ := List.getElem_of_mem hm
        have := Hno.out j (by have := Hn.out; omega)
        rw [List.getD_eq_getElem?_getD, List.getElem?_eq_getElem hj] at this
        exact this e
      go_wp2
      go_ret
      exact ⟨ret_bool (decide_eq_false Hm.out).symm, Below.refl _ _⟩

set_option maxHeartbeats 400000 in
theorem same_same (A1 A2 : Option Addr) (n c1 c2 : Nat) (zs : List Int) (w : World) (hn : zs.length = n) (hm : n ≤ 1048576) (h1 : Ints w A1 zs) (h2 : Ints w A2 zs) :
    Calls Try.prog 22 #[.slice A1 n c1, .slice A2 n c2] w fun e w' => e = .returned (.bool true) ∧ Below w.heap.size w w' := by
  have Hn := Lib.hid hn
  clear hn
  have H1 := Lib.hid h1
  have H2 := Lib.hid h2
  clear h1 h2
  go_enter Try.func22, Try.ntmps22
  go_wp2
  go_loopw [5] (fun i wr => ∃ k : Nat, k ≤ n ∧ i = .int .i64 k ∧ Below w.heap.size w wr) (fun i _ => n - (intOf i).toNat)
  case atStart => exact ⟨0, Nat.zero_le _, rfl, Below.refl _ _⟩
  case round =>
    obtain ⟨k, hk, rfl, hr⟩ := hrel
    by_cases hlt : k < n
    · obtain ⟨b, off, rfl, hc⟩ := H1.out.below hr (by have := Hn.out; omega)
      have hc1 := hc k (by have := Hn.out; omega)
      clear hc
      obtain ⟨b', off', rfl, hc⟩ := H2.out.below hr (by have := Hn.out; omega)
      have hc2 := hc k (by have := Hn.out; omega)
      clear hc
      generalize zs.getD k 0 = z at hc1 hc2
      go_wp2
      go_region
      all_goals
        go_wp2
        go_roundw
        case rel => exact ⟨k + 1, by omega, by go_num, by repeat (first | exact hr | apply Below.drew)⟩
        case measure => simp [intOf]; omega
    · go_wp2
      go_ret
      exact ⟨rfl, hr⟩
end Go.Proofs.Ytjbfmagedkmngaa.Que
