/- The program's parseNumber answers as the reference's l01Read where that one says yes. -/
import Derived.Test.YtahfmgjchjjlmaaDoorRea2
import Derived.Test.YtahfmgjchjjlmaaDoorTab1
import Derived.Lib.AtoiTie
import Derived.Lib.AtoiAllCases
import Derived.WalkSmall
namespace Go.Proofs.YtahfmgjchjjlmaaDoor.Num
open Go.RowKit Base

def Evar (w : World) (n : String) : Prop := ∃ tp p, w.var? Tryd.prog n = some #[.iface tp p]
def Errs (w : World) : Prop := Evar w "strconv.ErrSyntax" ∧ Evar w "strconv.ErrRange"

theorem gEs : Tryd.prog.globalNamed "strconv.ErrSyntax" = some 7 := by kernel_rfl
theorem gEr : Tryd.prog.globalNamed "strconv.ErrRange" = some 8 := by kernel_rfl

theorem Evar.below {w w' : World} {n : String} {g : Nat} (h : Evar w n) (hg : Tryd.prog.globalNamed n = some g) (hb : Below w.heap.size w w') : Evar w' n := by
  obtain ⟨tp, p, hv⟩ := h
  have hc := World.var?_cell hg hv 0
  have hlt : g < w.heap.size := World.block_lt_of_cell? _ _ (by simpa using hc)
  exact ⟨tp, p, var?_below hb hg hlt hv⟩

theorem Errs.below {w w' : World} (h : Errs w) (hb : Below w.heap.size w w') : Errs w' := ⟨h.1.below gEs hb, h.2.below gEr hb⟩

theorem decNat_of {l : List UInt8} {m : Nat} (h1 : 1 ≤ l.length) (h : Lib.decFrom 0 l = some m) : Lib.decNat l = some m := by
  cases l with
  | nil => simp at h1
  | cons b r => exact h

theorem of_decNat {l : List UInt8} {m : Nat} (h : Lib.decNat l = some m) : 1 ≤ l.length ∧ Lib.decFrom 0 l = some m := by
  cases l with
  | nil => cases h
  | cons b r => exact ⟨by simp, h⟩

theorem no_plus {r : List UInt8} : Lib.decFrom 0 (43 :: r) = none := decFrom_bad (k := 0) (by simp) (.inl (by show (43 : UInt8).toNat < 48; decide))

/-- Where the reference reads a number, so does the library. -/
theorem atoi_of_read {l : List UInt8} (h : (readT l).2 = true) : Lib.atoi l = some (readT l).1 ∧ (unsign l).length ≤ 10 ∧ Lib.itoa (readT l).1 = l := by
  unfold readT at h ⊢
  split
  · next hl =>
    rw [if_pos hl] at h
    cases hd : Lib.decFrom 0 (unsign l) with
    | none => rw [hd] at h; cases h
    | some m =>
      rw [hd] at h
      simp only at h ⊢
      refine ⟨?_, hl.2, beq_iff_eq.1 h⟩
      cases l with
      | nil => simp [unsign] at hl
      | cons b r =>
        by_cases e : b = 45
        · subst e
          have hu : unsign (45 :: r) = r := rfl
          rw [hu] at hd hl
          have hs : signed (45 :: r) m = -(m : Int) := rfl
          rw [hs]
          simp [Lib.atoi, decNat_of hl.1 hd]
        · have hh : (b :: r).head? ≠ some 45 := by simpa using e
          have hu : unsign (b :: r) = b :: r := if_neg hh
          rw [hu] at hd hl
          have hs : signed (b :: r) m = (m : Int) := if_neg hh
          rw [hs]
          have e2 : b ≠ 43 := by
            rintro rfl
            rw [no_plus] at hd
            cases hd
          simp [Lib.atoi, e, e2, decNat_of hl.1 hd]
  · next hl =>
    rw [if_neg hl] at h
    cases h

/-- And back: a numeral of at most ten digits that is as it would be written. -/
theorem read_of_atoi {l : List UInt8} {v : Int} (h : Lib.atoi l = some v) (hi : Lib.itoa v = l) (hl : (unsign l).length ≤ 10) : readT l = (v, true) := by
  cases l with
  | nil => cases h
  | cons b r =>
    by_cases e : b = 45
    · subst e
      have hu : unsign (45 :: r) = r := rfl
      simp only [Lib.atoi, beq_self_eq_true, if_true, Option.map_eq_some_iff] at h
      obtain ⟨m, hm, rfl⟩ := h
      obtain ⟨h1, h2⟩ := of_decNat hm
      rw [readT_some (m := m) (by rw [hu]; exact h1) hl (by rw [hu]; exact h2)]
      have hs : signed (45 :: r) m = -(m : Int) := rfl
      rw [hs, hi]
      simp
    · have hh : (b :: r).head? ≠ some 45 := by simpa using e
      have hu : unsign (b :: r) = b :: r := if_neg hh
      by_cases e2 : b = 43
      · subst e2
        exfalso
        simp [Lib.atoi] at h
        obtain ⟨m, hm, rfl⟩ := h
        rw [Lib.itoa_nonneg] at hi
        have h3 := digits_mem m 43 (by rw [hi]; simp)
        revert h3
        decide
      · simp [Lib.atoi, e, e2] at h
        obtain ⟨m, hm, rfl⟩ := h
        obtain ⟨h1, h2⟩ := of_decNat hm
        rw [readT_some (m := m) (by rw [hu]; exact h1) hl (by rw [hu]; exact h2)]
        have hs : signed (b :: r) m = (m : Int) := if_neg hh
        rw [hs, hi]
        simp

theorem unsign_len (l : List UInt8) : l.length ≤ (unsign l).length + 1 := by
  unfold unsign
  split
  · rw [List.length_tail]; omega
  · omega

theorem trim_len (l : List UInt8) : Lib.trimPrefix l [45] = unsign l := by
  cases l with
  | nil => rfl
  | cons b r =>
    by_cases e : b = 45
    · subst e; simp [Lib.trimPrefix, Lib.hasPrefix, unsign]
    · have e' : ¬ 45 = b := fun h => e h.symm
      simp [Lib.trimPrefix, Lib.hasPrefix, unsign, e, e']

/-- What parseNumber answers. -/
def numV (l : List UInt8) : Int := if (readT l).2 = true then (readT l).1 else 0
def NumEnd (w : World) (l : List UInt8) (e : Ending) (w' : World) : Prop := e = .returned (.tuple #[.int .i64 (numV l), .bool (readT l).2]) ∧ Below w.heap.size w w'

theorem numEnd_no {w w' : World} {l : List UInt8} (h : ¬ (readT l).2 = true) (hb : Below w.heap.size w w') : NumEnd w l (.returned (.tuple #[.int .i64 0, .bool false])) w' := by
  unfold NumEnd numV
  rw [if_neg h]
  cases e : (readT l).2
  · exact ⟨rfl, hb⟩
  · exact absurd e h

theorem numEnd_yes {w w' : World} {l : List UInt8} {v : Int} (h : readT l = (v, true)) (hb : Below w.heap.size w w') : NumEnd w l (.returned (.tuple #[.int .i64 v, .bool true])) w' := by
  unfold NumEnd numV
  rw [h]
  exact ⟨rfl, hb⟩

theorem all_of_read {l : List UInt8} (h : (readT l).2 = true) : Lib.atoiAll l = .ok (readT l).1 := by
  obtain ⟨h1, h2, _⟩ := atoi_of_read h
  rw [Lib.atoiAll_short l (by have := unsign_len l; omega), h1]
  rfl

theorem read_of_all {l : List UInt8} {v : Int} (h : Lib.atoiAll l = .ok v) (hi : Lib.itoa v = l) (hl : (unsign l).length ≤ 10) : readT l = (v, true) := by
  rw [Lib.atoiAll_short l (by have := unsign_len l; omega)] at h
  cases ha : Lib.atoi l with
  | none => rw [ha] at h; cases h
  | some u =>
    rw [ha] at h
    cases h
    exact read_of_atoi ha hi hl

theorem atoiAll_yes (s : ByteArray) (v : Int) (w : World) (hs : s.size ≤ 1048576) (h : Lib.atoiAll s.data.toList = .ok v) :
    Calls Tryd.prog 51 #[.string s] w fun e w' => e = .returned (.tuple #[.int .i64 v, .nilIface]) ∧ Below w.heap.size w w' :=
  (Tryd.strconv_Atoi_ok s (by omega) v h w).mono fun _ _ ⟨he, hw⟩ => ⟨he, by
    rcases hw with rfl | ⟨t, rfl⟩
    · exact Below.refl _ _
    · exact Joins.below_bytesWorld _ _ _ _ (Nat.le_refl _)⟩

def NumErr (w : World) (e : Ending) (w' : World) : Prop := ∃ n N, e = .returned (.tuple #[.int .i64 n, .iface 118 (.pointer (some ⟨N, 0, none⟩))]) ∧ Below w.heap.size w w'

theorem atoiAll_no (s : ByteArray) (w : World) (hs : s.size ≤ 1048576) (h : Lib.atoiAll s.data.toList = .syntax ∨ Lib.atoiAll s.data.toList = .range) (he : Errs w) :
    Calls Tryd.prog 51 #[.string s] w (NumErr w) := by
  obtain ⟨⟨tp, p, hv⟩, ⟨tp', p', hv'⟩⟩ := he
  rcases h with h | h
  · exact (Tryd.strconv_Atoi_syntax_var s (by omega) h tp p w hv).mono fun _ _ ⟨N, he, _, _, hb⟩ => ⟨_, N, he, hb⟩
  · exact (Tryd.strconv_Atoi_range_var s (by omega) h tp' p' w hv').mono fun _ _ ⟨N, he, _, _, hb⟩ => ⟨_, N, he, hb⟩

set_option maxHeartbeats 2000000 in
theorem parseNumber_any (s : ByteArray) (w : World) (hs : s.size ≤ 1048576) (ht : Tab w) (he : Errs w) : Calls Tryd.prog 42 #[.string s] w (NumEnd w s.data.toList) := by
  have Ht := Lib.hid ht
  have He := Lib.hid he
  clear ht he
  cases hat : Lib.atoiAll s.data.toList with
  | ok v =>
    have hbd := Lib.atoiAll_bounds hat
    have HA := Lib.hid (atoiAll_yes s v w hs hat)
    have HR : Hid (Lib.itoa v = s.data.toList → (unsign s.data.toList).length ≤ 10 → readT s.data.toList = (v, true)) := read_of_all hat
    have HQ : Hid ((readT s.data.toList).2 = true → Lib.itoa v = s.data.toList ∧ (unsign s.data.toList).length ≤ 10) := fun h => by
      have h1 := all_of_read h
      rw [hat] at h1
      cases h1
      obtain ⟨_, h2, h3⟩ := atoi_of_read h
      exact ⟨h3, h2⟩
    clear hat
    go_enter Tryd.func42, Tryd.ntmps42
    go_wp2_with fail
    refine HA.out.mono ?_
    rintro e w1 ⟨rfl, b1⟩
    have B := Lib.hid b1
    clear b1 HA
    go_wp2_with fail
    refine (itoa_any v _ hbd.1 hbd.2 (Ht.out.below B.out)).mono ?_
    rintro e w2 ⟨rfl, b2⟩
    replace B := Lib.hid (bel_trans B.out b2)
    clear b2
    have HE : Hid (Lib.trimPrefix s.data.toList [45] = unsign s.data.toList) := trim_len _
    by_cases hx : Lib.itoa v = s.data.toList
    · have HR2 : Hid ((unsign s.data.toList).length ≤ 10 → readT s.data.toList = (v, true)) := HR.out hx
      have HQ2 : Hid ((readT s.data.toList).2 = true → (unsign s.data.toList).length ≤ 10) := fun h => (HQ.out h).2
      clear HR HQ
      generalize Lib.itoa v = X at hx ⊢
      subst hx
      go_wp2_with fail
      refine (Tryd.strings_TrimPrefix s ⟨#[45]⟩ _).mono ?_
      rintro e w3 ⟨rfl, hw⟩
      subst hw
      rw [show (⟨#[45]⟩ : ByteArray).data.toList = [45] from rfl, HE.out]
      generalize unsign s.data.toList = D at HR2 HQ2 ⊢
      have hD : (⟨D.toArray⟩ : ByteArray).size = D.length := by simp [ByteArray.size]
      by_cases hl : D.length ≤ 10
      · have hl2 : ¬ (10 : Int) < (D.length : Int) := by omega
        have HP := Lib.hid (HR2.out hl)
        go_wp2
        go_ret2
        exact numEnd_yes HP.out B.out
      · have hl2 : (10 : Int) < (D.length : Int) := by omega
        have HP : Hid (¬ (readT s.data.toList).2 = true) := fun h => hl (HQ2.out h)
        go_wp2
        go_ret2
        exact numEnd_no HP.out B.out
    · have HP : Hid (¬ (readT s.data.toList).2 = true) := fun h => hx (HQ.out h).1
      clear HR HQ
      generalize Lib.itoa v = X at hx ⊢
      have hx1 : (X == s.toList) = false := by rw [ByteArray.toList_eq, beq_eq_false_iff_ne]; exact hx
      clear hx
      go_wp2
      go_ret2
      exact numEnd_no HP.out B.out
  | «syntax» =>
    have HP : Hid (¬ (readT s.data.toList).2 = true) := fun h => by have := all_of_read h; rw [hat] at this; cases this
    have HA := Lib.hid (atoiAll_no s w hs (.inl hat) He.out)
    clear hat
    go_enter Tryd.func42, Tryd.ntmps42
    go_wp2_with fail
    refine HA.out.mono ?_
    rintro e w1 ⟨n, N, rfl, b1⟩
    go_wp2
    go_ret2
    exact numEnd_no HP.out b1
  | range =>
    have HP : Hid (¬ (readT s.data.toList).2 = true) := fun h => by have := all_of_read h; rw [hat] at this; cases this
    have HA := Lib.hid (atoiAll_no s w hs (.inr hat) He.out)
    clear hat
    go_enter Tryd.func42, Tryd.ntmps42
    go_wp2_with fail
    refine HA.out.mono ?_
    rintro e w1 ⟨n, N, rfl, b1⟩
    go_wp2
    go_ret2
    exact numEnd_no HP.out b1
end Go.Proofs.YtahfmgjchjjlmaaDoor.Num
