/- strings.Cut at the byte '='. -/
import Derived.Test.YtahfmgjchjjlmaaDoorLin1
import Derived.Test.YtahfmgjchjjlmaaDoorShelf
namespace Go.Proofs.YtahfmgjchjjlmaaDoor.Parts
open Go.RowKit Base

theorem index_no {l : List UInt8} {c : UInt8} (h : ∀ b, b ∈ l → b ≠ c) : Lib.indexByte l c = -1 := by
  induction l with
  | nil => rfl
  | cons b r ih =>
    have hb : (b == c) = false := beq_eq_false_iff_ne.2 (h b (by simp))
    simp [Lib.indexByte, hb, ih fun x hx => h x (by simp [hx])]

theorem index_yes {c : UInt8} {v : List UInt8} : ∀ {n : List UInt8}, (∀ b, b ∈ n → b ≠ c) → Lib.indexByte (n ++ c :: v) c = n.length
  | [], _ => by simp [Lib.indexByte]
  | b :: r, h => by
    have hb : (b == c) = false := beq_eq_false_iff_ne.2 (h b (by simp))
    have ih := index_yes (v := v) (n := r) fun x hx => h x (by simp [hx])
    have h1 : (((r.length : Nat) : Int) == -1) = false := by simp
    simp only [List.cons_append, Lib.indexByte, hb, ih, h1]
    simp

/-- A line without the byte, or cut at its first one. -/
theorem cut_cases (l : List UInt8) (c : UInt8) : (∀ b, b ∈ l → b ≠ c) ∨ ∃ n v, l = n ++ c :: v ∧ ∀ b, b ∈ n → b ≠ c := by
  induction l with
  | nil => exact .inl (by simp)
  | cons b r ih =>
    by_cases e : b = c
    · subst e
      exact .inr ⟨[], r, rfl, by simp⟩
    · rcases ih with h | ⟨n, v, rfl, h⟩
      · refine .inl fun x hx => ?_
        rcases List.mem_cons.1 hx with rfl | hx
        · exact e
        · exact h x hx
      · refine .inr ⟨b :: n, v, rfl, fun x hx => ?_⟩
        rcases List.mem_cons.1 hx with rfl | hx
        · exact e
        · exact h x hx

theorem parts_no {l : List UInt8} {c : UInt8} (h : ∀ b, b ∈ l → b ≠ c) : parts c l = [l] := by
  induction l with
  | nil => rfl
  | cons b r ih =>
    unfold parts
    rw [if_neg (h b (by simp)), ih fun x hx => h x (by simp [hx])]
    rfl

theorem parts_cut {c : UInt8} {v : List UInt8} : ∀ {n : List UInt8}, (∀ b, b ∈ n → b ≠ c) → parts c (n ++ c :: v) = n :: parts c v
  | [], _ => by
    show parts c (c :: v) = _
    conv => lhs; unfold parts
    rw [if_pos rfl]
  | b :: r, h => by
    show parts c (b :: (r ++ c :: v)) = _
    conv => lhs; unfold parts
    rw [if_neg (h b (by simp)), parts_cut fun x hx => h x (by simp [hx])]
    rfl

theorem parts_two_of {c : UInt8} {v : List UInt8} (h : ¬ ∀ b, b ∈ v → b ≠ c) : 2 ≤ (parts c v).length := by
  rcases cut_cases v c with h1 | ⟨n, u, rfl, h2⟩
  · exact absurd h1 h
  · rw [parts_cut h2]
    have := List.length_pos_iff.2 (parts_ne c u)
    simp
    omega

set_option maxHeartbeats 800000 in
theorem cutIn_no (s : ByteArray) (w : World) (h : ∀ b, b ∈ s.data.toList → b ≠ 61) : Calls Tryd.prog 50 #[.string s, .string ⟨#[61]⟩] w fun e w' => e = .returned (.tuple #[.string s, .string ⟨#[]⟩, .bool false]) ∧ w' = w := by
  have HI := Lib.hid (index_no h)
  have HC := Lib.hid (Tryd.stringslite_Index_one s 61 w)
  clear h
  go_enter Tryd.func50, Tryd.ntmps50
  go_wp2_with fail
  refine HC.out.mono ?_
  rintro e w1 ⟨rfl, hw⟩
  subst hw
  rw [HI.out]
  go_wp2
  exact bodyPost_ret (v := .tuple #[.string s, .string ⟨#[]⟩, .bool false]) (by simp [results, Tryd.results50, go_sem]) rfl ⟨rfl, rfl⟩

set_option maxHeartbeats 800000 in
theorem cutIn_yes (s : ByteArray) (n v : List UInt8) (w : World) (hs : s.size ≤ 1048576) (hl : s.data.toList = n ++ 61 :: v) (h : ∀ b, b ∈ n → b ≠ 61) : Calls Tryd.prog 50 #[.string s, .string ⟨#[61]⟩] w fun e w' => e = .returned (.tuple #[.string ⟨n.toArray⟩, .string ⟨v.toArray⟩, .bool true]) ∧ Below w.heap.size w w' := by
  have HI : Hid (Lib.indexByte s.data.toList 61 = n.length) := by rw [hl]; exact index_yes h
  have HC := Lib.hid (Tryd.stringslite_Index_one s 61 w)
  have hz : s.size = n.length + 1 + v.length := by
    have := congrArg List.length hl
    rw [Array.length_toList] at this
    have e : s.data.size = s.size := rfl
    simp at this
    omega
  have H1 : Hid (s.extract 0 n.length = ⟨n.toArray⟩) := by
    apply ByteArray.ext
    apply Array.toList_inj.1
    rw [Lib.extract_data, hl]
    simp
  have H2 : Hid (s.extract (n.length + 1) s.size = ⟨v.toArray⟩) := by
    apply ByteArray.ext
    apply Array.toList_inj.1
    rw [Lib.extract_data, hl, hz]
    have e : n ++ 61 :: v = (n ++ [61]) ++ v := by simp
    rw [e, List.drop_append_of_le_length (by simp), List.drop_eq_nil_of_le (by simp)]
    rw [List.nil_append, List.take_of_length_le (by omega)]
  have h0 : (0 : Int) ≤ (n.length : Int) := by omega
  have h1 : (n.length : Int) ≤ (s.size : Int) := by omega
  have h2 : (n.length : Int) + 1 ≤ (s.size : Int) := by omega
  clear h hl hz
  go_enter Tryd.func50, Tryd.ntmps50
  go_wp2_with fail
  refine HC.out.mono ?_
  rintro e w1 ⟨rfl, hw⟩
  subst hw
  rw [HI.out]
  go_wp2_with fail
  go_region
  all_goals
    go_wp2
    exact bodyPost_ret (v := .tuple #[.string ⟨n.toArray⟩, .string ⟨v.toArray⟩, .bool true]) (by simp [results, Tryd.results50, go_sem, H1.out, H2.out]) rfl ⟨rfl, (Below.refl _ _).drew⟩

theorem cut_no (s : ByteArray) (w : World) (h : ∀ b, b ∈ s.data.toList → b ≠ 61) : Calls Tryd.prog 41 #[.string s, .string ⟨#[61]⟩] w fun e w' => e = .returned (.tuple #[.string s, .string ⟨#[]⟩, .bool false]) ∧ Below w.heap.size w w' := by
  have HC := Lib.hid (cutIn_no s w h)
  clear h
  go_enter Tryd.func41, Tryd.ntmps41
  go_wp2_with fail
  refine HC.out.mono ?_
  rintro e w1 ⟨rfl, hw⟩
  subst hw
  go_wp2
  exact bodyPost_ret (v := .tuple #[.string s, .string ⟨#[]⟩, .bool false]) (by simp [results, Tryd.results41, go_sem]) rfl ⟨rfl, Below.refl _ _⟩

theorem cut_yes (s : ByteArray) (n v : List UInt8) (w : World) (hs : s.size ≤ 1048576) (hl : s.data.toList = n ++ 61 :: v) (h : ∀ b, b ∈ n → b ≠ 61) : Calls Tryd.prog 41 #[.string s, .string ⟨#[61]⟩] w fun e w' => e = .returned (.tuple #[.string ⟨n.toArray⟩, .string ⟨v.toArray⟩, .bool true]) ∧ Below w.heap.size w w' := by
  have HC := Lib.hid (cutIn_yes s n v w hs hl h)
  clear h hl
  go_enter Tryd.func41, Tryd.ntmps41
  go_wp2_with fail
  refine HC.out.mono ?_
  rintro e w1 ⟨rfl, hb⟩
  go_wp2
  exact bodyPost_ret (v := .tuple #[.string ⟨n.toArray⟩, .string ⟨v.toArray⟩, .bool true]) (by simp [results, Tryd.results41, go_sem]) rfl ⟨rfl, hb⟩
end Go.Proofs.YtahfmgjchjjlmaaDoor.Parts
