/- The model's l01Read: the number, of at most ten digits, that a word writes. -/
import Derived.Test.YtahfmgjchjjlmaaDoorHtk
import Derived.Test.YtahfmgjchjjlmaaDoorNum1
import Derived.Lib.Strings
namespace Go.Proofs.YtahfmgjchjjlmaaDoor.Num
open Go.RowKit Base Tick

def unsign (l : List UInt8) : List UInt8 := if l.head? = some 45 then l.tail else l
def signed (l : List UInt8) (m : Nat) : Int := if l.head? = some 45 then -(m : Int) else (m : Int)
def readT (l : List UInt8) : Int × Bool :=
  if 1 ≤ (unsign l).length ∧ (unsign l).length ≤ 10 then
    match Lib.decFrom 0 (unsign l) with
    | none => (0, false)
    | some m => (signed l m, Lib.itoa (signed l m) == l)
  else (0, false)

theorem readT_len {l : List UInt8} (h : ¬ (1 ≤ (unsign l).length ∧ (unsign l).length ≤ 10)) : readT l = (0, false) := if_neg h
theorem readT_none {l : List UInt8} (h : Lib.decFrom 0 (unsign l) = none) : readT l = (0, false) := by
  unfold readT; split
  · rw [h]
  · rfl
theorem readT_some {l : List UInt8} {m : Nat} (h1 : 1 ≤ (unsign l).length) (h2 : (unsign l).length ≤ 10) (h : Lib.decFrom 0 (unsign l) = some m) : readT l = (signed l m, Lib.itoa (signed l m) == l) := by
  unfold readT; rw [if_pos ⟨h1, h2⟩, h]

theorem decFrom_lt10 {l : List UInt8} {m : Nat} (h : Lib.decFrom 0 l = some m) (hl : l.length ≤ 10) : m < 10000000000 := by
  have h1 := Lib.decFrom_lt l 0 m h
  have h2 : 10 ^ l.length ≤ 10 ^ 10 := Nat.pow_le_pow_right (by omega) hl
  have h3 : (10 : Nat) ^ 10 = 10000000000 := by decide
  omega

theorem decFrom_bad {l : List UInt8} {k : Nat} (h : k < l.length) (hd : l[k].toNat < 48 ∨ 57 < l[k].toNat) : Lib.decFrom 0 l = none := by
  cases e : Lib.decFrom 0 l with
  | none => rfl
  | some n =>
    obtain ⟨d, hd'⟩ := Lib.digit_of_decFrom l 0 n e k l[k] (List.getElem?_eq_getElem h)
    have := Lib.digitVal_eq hd'
    omega

theorem decFrom_next {l : List UInt8} {k m : Nat} (h : k < l.length) (hm : Lib.decFrom 0 (l.take k) = some m) (h0 : 48 ≤ l[k].toNat) (h1 : l[k].toNat ≤ 57) : Lib.decFrom 0 (l.take (k + 1)) = some (m * 10 + (l[k].toNat - 48)) :=
  Lib.decFrom_take l k 0 m l[k] _ hm (List.getElem?_eq_getElem h) (by simp [Lib.digitVal, h0, h1])

theorem unsign_neg {s : ByteArray} (h : 0 < s.size) (e : s[0] = 45) : unsign s.data.toList = (s.extract 1 s.size).data.toList ∧ s.data.toList.head? = some 45 := by
  have hl : s.data.toList.length = s.size := by rw [Array.length_toList]; rfl
  have hh : s.data.toList.head? = some 45 := by
    rw [List.head?_eq_getElem?, List.getElem?_eq_getElem (by omega)]
    exact congrArg some e
  refine ⟨?_, hh⟩
  unfold unsign
  rw [if_pos hh, Lib.extract_data, List.drop_one, List.take_of_length_le]
  rw [List.length_tail]; omega

theorem unsign_pos {s : ByteArray} (h : s.size = 0 ∨ ∃ h : 0 < s.size, s[0] ≠ 45) : unsign s.data.toList = s.data.toList ∧ s.data.toList.head? ≠ some 45 := by
  have hl : s.data.toList.length = s.size := by rw [Array.length_toList]; rfl
  have hh : s.data.toList.head? ≠ some 45 := by
    rw [List.head?_eq_getElem?]
    rcases h with h | ⟨h, e⟩
    · rw [List.getElem?_eq_none (by omega)]; simp
    · rw [List.getElem?_eq_getElem (by omega)]
      intro h2
      exact e (Option.some.inj h2)
  exact ⟨if_neg hh, hh⟩

theorem val_eq {k : IntKind} {a b : Int} (h : a = b) : Value.int k a = Value.int k b := by rw [h]

def ReadOk (w : World) (l : List UInt8) (e : Ending) (w' : World) : Prop := e = .returned (.tuple #[.int .i64 (readT l).1, .bool (readT l).2]) ∧ Below w.heap.size w w'

theorem readOk_of {w w' : World} {l : List UInt8} {x : Int} {b : Bool} (h : readT l = (x, b)) (hb : Below w.heap.size w w') : ReadOk w l (.returned (.tuple #[.int .i64 x, .bool b])) w' := by
  unfold ReadOk; rw [h]; exact ⟨rfl, hb⟩

set_option maxHeartbeats 1600000 in
theorem read_any (s : ByteArray) (w : World) (hs : s.size ≤ 1048576) : Calls Tryd.prog 21 #[.string s] w (ReadOk w s.data.toList) := by
  by_cases hz : s.size = 0
  · have hu := unsign_pos (.inl hz)
    have HR := Lib.hid (readT_len (l := s.data.toList) (by rw [hu.1, Array.length_toList]; show ¬ (1 ≤ s.size ∧ _); omega))
    clear hu
    have hin : inB 0 1 10 = false := inB_false (.inl (by omega))
    go_enter Tryd.func21, Tryd.ntmps21
    go_wp2_with (go_at_call 25; with_reducible refine (in_any _ _ _ _).mono ?_; rintro e w' ⟨rfl, rfl⟩)
    go_ret2
    exact readOk_of HR.out (Below.refl _ _)
  · have hp : 0 < s.size := by omega
    have hpi : (0 : Int) < (s.size : Int) := by omega
    by_cases e : s[0] = 45
    · have hu := unsign_neg hp e
      have HSg : Hid (∀ m : Nat, signed s.data.toList m = -(m : Int)) := fun m => if_pos hu.2
      have h45 : ((s[0].toNat : Int) == 45) = true := by rw [e]; rfl
      have HU := Lib.hid hu.1
      clear hu e
      go_enter Tryd.func21, Tryd.ntmps21
      go_wp2_with fail
      have hds : (s.extract 1 s.size).size = s.size - 1 := by simp
      rw [← hds]
      generalize s.extract 1 s.size = D at HU hds ⊢
      have hDs : D.size < s.size := by omega
      clear hds
      by_cases hlen : 1 ≤ D.size ∧ D.size ≤ 10
      · obtain ⟨hl1, hl2⟩ := hlen
        have hin : inB (D.size : Int) 1 10 = true := inB_true (by omega) (by omega)
        refine (in_any _ _ _ _).mono ?_
        rw [hin]
        rintro e w' ⟨rfl, rfl⟩
        clear hin
        go_wp2
        go_loop [5, 6] (fun x i => ∃ k m : Nat, k ≤ D.size ∧ i = .int .i64 k ∧ x = .int .i64 m ∧ m < 10000000000 ∧ Lib.decFrom 0 (D.data.toList.take k) = some m) (fun _ i => D.size - (intOf i).toNat)
        case atStart => exact ⟨0, 0, Nat.zero_le _, rfl, rfl, by omega, rfl⟩
        case round =>
          obtain ⟨k, m, hk, rfl, rfl, hm, hdec⟩ := hrel
          have Hdec := Lib.hid hdec
          clear hdec
          by_cases hlt : k < D.size
          · have hkl : k < D.data.toList.length := by rw [Array.length_toList]; exact hlt
            have Hg : Hid (D.data.toList[k] = D[k]) := rfl
            by_cases h0 : (D[k].toNat : Int) < 48
            · have HR := Lib.hid (readT_none (l := s.data.toList) (by rw [HU.out]; exact decFrom_bad hkl (by rw [Hg.out]; omega)))
              go_wp2
              go_ret2
              exact readOk_of HR.out (Below.refl _ _)
            · by_cases h1 : 57 < (D[k].toNat : Int)
              · have HR := Lib.hid (readT_none (l := s.data.toList) (by rw [HU.out]; exact decFrom_bad hkl (by rw [Hg.out]; omega)))
                go_wp2
                go_ret2
                exact readOk_of HR.out (Below.refl _ _)
              · have HS : Hid (Lib.decFrom 0 (D.data.toList.take (k + 1)) = some (m * 10 + (D[k].toNat - 48))) := by
                  have := decFrom_next hkl Hdec.out (by rw [Hg.out]; omega) (by rw [Hg.out]; omega)
                  rw [Hg.out] at this
                  exact this
                have HB := Lib.hid (decFrom_lt10 HS.out (by rw [List.length_take]; omega))
                have h2 : (D[k].toNat : Int) ≤ 57 := by omega
                have h3 : 48 ≤ (D[k].toNat : Int) := by omega
                go_wp2
                go_round
                case rel => exact ⟨k + 1, m * 10 + (D[k].toNat - 48), by omega, by go_num, val_eq (by omega), HB.out, HS.out⟩
                case measure => simp [intOf]; omega
          · have hfull : D.data.toList.take k = D.data.toList := List.take_of_length_le (by rw [Array.length_toList]; show D.size ≤ k; omega)
            have HR := Lib.hid (readT_some (l := s.data.toList) (m := m) (by rw [HU.out, Array.length_toList]; exact hl1) (by rw [HU.out, Array.length_toList]; exact hl2) (by rw [HU.out, ← hfull]; exact Hdec.out))
            clear hfull
            rw [HSg.out] at HR
            have Hc := Lib.hid (num_any (-(m : Int)) w (by omega) (by omega))
            generalize Lib.itoa (-(m : Int)) = L at HR Hc
            go_wp2_with fail
            refine Hc.out.mono ?_
            rintro e w1 ⟨rfl, hb⟩
            go_wp2
            go_ret2
            have hE : (L == s.toList) = (L == s.data.toList) := by rw [ByteArray.toList_eq]
            rw [hE]
            exact readOk_of HR.out hb
      · have hin : inB (D.size : Int) 1 10 = false := inB_false (by omega)
        have HR := Lib.hid (readT_len (l := s.data.toList) (by rw [HU.out, Array.length_toList]; exact hlen))
        refine (in_any _ _ _ _).mono ?_
        rw [hin]
        rintro e w' ⟨rfl, rfl⟩
        go_wp2
        go_ret2
        exact readOk_of HR.out (Below.refl _ _)
    · have hu := unsign_pos (.inr ⟨hp, e⟩)
      have HSg : Hid (∀ m : Nat, signed s.data.toList m = (m : Int)) := fun m => if_neg hu.2
      have h45 : ((s[0].toNat : Int) == 45) = false := by
        rw [beq_eq_false_iff_ne]; intro h; exact e (UInt8.toNat_inj.1 (show s[0].toNat = 45 by omega))
      have HU := Lib.hid hu.1
      clear hu e
      go_enter Tryd.func21, Tryd.ntmps21
      go_wp2_with fail
      by_cases hlen : 1 ≤ s.size ∧ s.size ≤ 10
      · obtain ⟨hl1, hl2⟩ := hlen
        have hin : inB (s.size : Int) 1 10 = true := inB_true (by omega) (by omega)
        refine (in_any _ _ _ _).mono ?_
        rw [hin]
        rintro e w' ⟨rfl, rfl⟩
        clear hin
        go_wp2
        go_loop [5, 6] (fun x i => ∃ k m : Nat, k ≤ s.size ∧ i = .int .i64 k ∧ x = .int .i64 m ∧ m < 10000000000 ∧ Lib.decFrom 0 (s.data.toList.take k) = some m) (fun _ i => s.size - (intOf i).toNat)
        case atStart => exact ⟨0, 0, Nat.zero_le _, rfl, rfl, by omega, rfl⟩
        case round =>
          obtain ⟨k, m, hk, rfl, rfl, hm, hdec⟩ := hrel
          have Hdec := Lib.hid hdec
          clear hdec
          by_cases hlt : k < s.size
          · have hkl : k < s.data.toList.length := by rw [Array.length_toList]; exact hlt
            have Hg : Hid (s.data.toList[k] = s[k]) := rfl
            by_cases h0 : (s[k].toNat : Int) < 48
            · have HR := Lib.hid (readT_none (l := s.data.toList) (by rw [HU.out]; exact decFrom_bad hkl (by rw [Hg.out]; omega)))
              go_wp2
              go_ret2
              exact readOk_of HR.out (Below.refl _ _)
            · by_cases h1 : 57 < (s[k].toNat : Int)
              · have HR := Lib.hid (readT_none (l := s.data.toList) (by rw [HU.out]; exact decFrom_bad hkl (by rw [Hg.out]; omega)))
                go_wp2
                go_ret2
                exact readOk_of HR.out (Below.refl _ _)
              · have HS : Hid (Lib.decFrom 0 (s.data.toList.take (k + 1)) = some (m * 10 + (s[k].toNat - 48))) := by
                  have := decFrom_next hkl Hdec.out (by rw [Hg.out]; omega) (by rw [Hg.out]; omega)
                  rw [Hg.out] at this
                  exact this
                have HB := Lib.hid (decFrom_lt10 HS.out (by rw [List.length_take]; omega))
                have h2 : (s[k].toNat : Int) ≤ 57 := by omega
                have h3 : 48 ≤ (s[k].toNat : Int) := by omega
                go_wp2
                go_round
                case rel => exact ⟨k + 1, m * 10 + (s[k].toNat - 48), by omega, by go_num, val_eq (by omega), HB.out, HS.out⟩
                case measure => simp [intOf]; omega
          · have hfull : s.data.toList.take k = s.data.toList := List.take_of_length_le (by rw [Array.length_toList]; show s.size ≤ k; omega)
            have HR := Lib.hid (readT_some (l := s.data.toList) (m := m) (by rw [HU.out, Array.length_toList]; exact hl1) (by rw [HU.out, Array.length_toList]; exact hl2) (by rw [HU.out, ← hfull]; exact Hdec.out))
            clear hfull
            rw [HSg.out] at HR
            have Hc := Lib.hid (num_any ((m : Int)) w (by omega) (by omega))
            generalize Lib.itoa ((m : Int)) = L at HR Hc
            go_wp2_with fail
            refine Hc.out.mono ?_
            rintro e w1 ⟨rfl, hb⟩
            go_wp2
            go_ret2
            have hE : (L == s.toList) = (L == s.data.toList) := by rw [ByteArray.toList_eq]
            rw [hE]
            exact readOk_of HR.out hb
      · have hin : inB (s.size : Int) 1 10 = false := inB_false (by omega)
        have HR := Lib.hid (readT_len (l := s.data.toList) (by rw [HU.out, Array.length_toList]; exact hlen))
        refine (in_any _ _ _ _).mono ?_
        rw [hin]
        rintro e w' ⟨rfl, rfl⟩
        go_wp2
        go_ret2
        exact readOk_of HR.out (Below.refl _ _)
end Go.Proofs.YtahfmgjchjjlmaaDoor.Num
