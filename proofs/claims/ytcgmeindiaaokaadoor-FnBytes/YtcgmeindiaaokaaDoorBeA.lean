/- The laws' helpers that FnBytes calls: big, at, sameBytes, sameEvents; how great a draw may become. -/
import Derived.Test.YtcgmeindiaaokaaDoorByW
import Derived.Test.YtcgmeindiaaokaaDoorDraw2
import Derived.Laws.StructEq
namespace Go.Proofs.YtcgmeindiaaokaaDoor.By
open Go.RowKit Go.Deep Base Rw

theorem big_any (A : Option Addr) (n cap : Nat) (w : World) (hm : n ≤ 9223372036854775807) : Calls Tryd.prog 8 #[.slice A n cap] w fun e w' => e = .returned (.bool (decide (1048576 < n))) ∧ w = w' := by
  go_enter Tryd.func8, Tryd.ntmps8
  go_wp2
  go_ret
  exact ⟨ret_bool (by simp; omega), rfl⟩

theorem at_any (A : Option Addr) (n cap : Nat) (zs : List Int) (k : Nat) (hk : k ≤ 1000) (w : World) (hn : zs.length = n) (hs : n ≤ 1048576) (hb : isB zs) (h : BI w A zs) :
    Calls Tryd.prog 17 #[.slice A n cap, .int .i64 k] w fun e w' => (∃ x, e = .returned (.int .i64 x) ∧ 0 ≤ x ∧ x ≤ 255) ∧ w = w' := by
  have HB := Lib.hid hb
  have HI := Lib.hid h
  have HN := Lib.hid hn
  clear hb hn h
  by_cases h0 : k < n
  · obtain ⟨b, off, rfl, hcb⟩ := HI.out (by have := HN.out; omega)
    have hz := HB.out.at (i := k) (by have := HN.out; omega)
    have cz := hcb k (by have := HN.out; omega)
    clear hcb
    generalize zs.getD k 0 = z at hz cz
    obtain ⟨z0, z1⟩ := hz
    have h0' : (k : Int) < (n : Int) := by omega
    have hk0 : (0 : Int) ≤ (k : Int) := by omega
    go_enter Tryd.func17, Tryd.ntmps17
    go_wp2
    go_ret
    exact ⟨⟨z, rfl, z0, by omega⟩, rfl⟩
  · have h0' : ¬ (k : Int) < (n : Int) := by omega
    have hm : 0 ≤ ((k : Int) * 13 + (n : Int) * 5).tmod 256 ∧ ((k : Int) * 13 + (n : Int) * 5).tmod 256 ≤ 255 := by
      rw [Int.tmod_eq_emod_of_nonneg (by omega)]; omega
    go_enter Tryd.func17, Tryd.ntmps17
    go_wp2
    go_ret
    exact ⟨⟨_, rfl, by omega, by omega⟩, rfl⟩

set_option maxHeartbeats 400000 in
theorem size_any (A : Option Addr) (n cap : Nat) (w : World) (hs : n ≤ 1048576) :
    Calls Tryd.prog 42 #[.slice A n cap, .int .i64 60] w fun e w' => (∃ x, e = .returned (.int .i64 x) ∧ 2 ≤ x ∧ x ≤ 60) ∧ w = w' := by
  have hd : (n : Int).tdiv 16 = ((n / 16 : Nat) : Int) := by rw [Int.tdiv_eq_ediv_of_nonneg (by omega)]; omega
  by_cases h : 60 < 2 + n / 16
  · have h' : (60 : Int) < 2 + ((n / 16 : Nat) : Int) := by omega
    go_enter Tryd.func42, Tryd.ntmps42
    go_wp2
    go_ret
    exact ⟨⟨_, rfl, by omega, by omega⟩, rfl⟩
  · have h' : ¬ (60 : Int) < 2 + ((n / 16 : Nat) : Int) := by omega
    go_enter Tryd.func42, Tryd.ntmps42
    go_wp2
    go_ret
    exact ⟨⟨_, rfl, by omega, by omega⟩, rfl⟩

set_option maxHeartbeats 400000 in
theorem sameB_any (A1 A2 : Option Addr) (n c1 c2 : Nat) (zs : List Int) (w : World) (hn : zs.length = n) (hm : n ≤ 1048576) (h1 : BI w A1 zs) (h2 : BI w A2 zs) :
    Calls Tryd.prog 12 #[.slice A1 n c1, .slice A2 n c2] w fun e w' => e = .returned (.bool true) ∧ Below w.heap.size w w' := by
  have Hn := Lib.hid hn
  clear hn
  have H1 := Lib.hid h1
  have H2 := Lib.hid h2
  clear h1 h2
  go_enter Tryd.func12, Tryd.ntmps12
  go_wp2
  go_loopw [5] (fun i wr => ∃ k : Nat, k ≤ n ∧ i = .int .i64 k ∧ Below w.heap.size w wr) (fun i _ => n - (intOf i).toNat)
  case atStart => exact ⟨0, Nat.zero_le _, rfl, Below.refl _ _⟩
  case round =>
    obtain ⟨k, hk, rfl, hr⟩ := hrel
    by_cases hlt : k < n
    · obtain ⟨b, off, rfl, hc⟩ := H1.out.below hr (by have := Hn.out; omega)
      have hc1 := hc k (by have := Hn.out; omega)
      clear hc
      obtain ⟨b', off', rfl, hc⟩ := H2.out.below hr (by have := Hn.out; omega)
      have hc2 := hc k (by have := Hn.out; omega)
      clear hc
      generalize zs.getD k 0 = z at hc1 hc2
      go_wp2
      go_region
      all_goals
        go_wp2
        go_roundw
        case rel => exact ⟨k + 1, by omega, by go_num, by repeat (first | exact hr | apply Below.drew)⟩
        case measure => simp [intOf]; omega
    · go_wp2
      go_ret
      exact ⟨rfl, hr⟩

set_option maxRecDepth 100000 in
set_option maxHeartbeats 1000000 in
theorem sameE_any (A1 A2 : Option Addr) (n c1 c2 : Nat) (es : List Ev) (w : World) (hn : es.length = n) (hm : n ≤ 1048576) (h1 : EI w A1 es) (h2 : EI w A2 es) :
    Calls Tryd.prog 16 #[.slice A1 n c1, .slice A2 n c2] w fun e w' => e = .returned (.bool true) ∧ Below w.heap.size w w' := by
  have Hn := Lib.hid hn
  clear hn
  have H1 := Lib.hid h1
  have H2 := Lib.hid h2
  clear h1 h2
  go_enter Tryd.func16, Tryd.ntmps16
  go_wp2
  go_loopw [5] (fun i wr => ∃ k : Nat, k ≤ n ∧ i = .int .i64 k ∧ Below w.heap.size w wr) (fun i _ => n - (intOf i).toNat)
  case atStart => exact ⟨0, Nat.zero_le _, rfl, Below.refl _ _⟩
  case round =>
    obtain ⟨k, hk, rfl, hr⟩ := hrel
    by_cases hlt : k < n
    · obtain ⟨g, off, rfl, hc⟩ := (H1.out.below hr) (by have := Hn.out; omega)
      obtain ⟨c0, c1, c2⟩ := hc k (by have := Hn.out; omega)
      clear hc
      obtain ⟨g', off', rfl, hc⟩ := (H2.out.below hr) (by have := Hn.out; omega)
      obtain ⟨d0, d1, d2⟩ := hc k (by have := Hn.out; omega)
      clear hc
      generalize atE es k = s at c0 c1 c2 d0 d1 d2
      have hne : ∀ W, (binOp .neq 41 (aggE s) (aggE s)).run Tryd.prog W = .ok (.bool false) W := fun W => by
        simp [go_sem]
      go_wp2
      go_region
      all_goals
        go_wp2
        go_roundw
        case rel => exact ⟨k + 1, by omega, by go_num, by repeat (first | exact hr | apply Below.drew)⟩
        case measure => simp [intOf]; omega
    · go_wp2
      go_ret
      exact ⟨rfl, hr⟩
end Go.Proofs.YtcgmeindiaaokaaDoor.By
