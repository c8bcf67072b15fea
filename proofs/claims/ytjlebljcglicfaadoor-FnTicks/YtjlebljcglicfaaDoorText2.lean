/- The program's TickText returns the tick's text, where the library's table of powers holds what its text lays. -/
import Derived.Test.YtjlebljcglicfaaDoorTick2
import Derived.Test.YtjlebljcglicfaaDoorText1
import Derived.Test.YtjlebljcglicfaaDoorShelf
import Derived.Lib.SmallJoins
namespace Go.Proofs.YtjlebljcglicfaaDoor.Num
open Go.RowKit Base Tick

def Tab (w : World) : Prop := Lib.TabIs Tryd.prog w "internal/strconv.uint64pow10" .u64 Lib.pow10Tab

theorem gTab : Tryd.prog.globalNamed "internal/strconv.uint64pow10" = some 2 := by kernel_rfl

theorem Tab.below {w w' : World} (h : Tab w) (hb : Below w.heap.size w w') : Tab w' := by
  exact Joins.tab_stays gTab h hb (Nat.le_refl _)

theorem bel_grow (w : World) (k : Nat) (os : Array Obj) : Below w.heap.size w (Sort.grow (w.drewN k) os) :=
  ⟨rfl, rfl, rfl, by simp [Sort.grow], fun i hi => by simp [Sort.grow, Array.getElem?_append, hi]⟩

theorem itoa_any (n : Int) (w : World) (h0 : -9223372036854775808 ≤ n) (h1 : n ≤ 9223372036854775807) (ht : Tab w) :
    Calls Tryd.prog 27 #[.int .i64 n] w fun e w' => e = .returned (.string ⟨(Lib.itoa n).toArray⟩) ∧ Below w.heap.size w w' :=
  (Tryd.strconv_Itoa n h0 h1 w ht).mono fun _ _ ⟨he, k, os, hw⟩ => ⟨he, by rw [hw]; exact bel_grow w k os⟩

set_option maxHeartbeats 800000 in
theorem implTickText_yes (n : Nat) (w : World) (h : (n : Int) ≤ 1000000000) (htab : Tab w) : Calls Tryd.prog 15 #[.int .i64 n] w fun e w' => e = .returned (.string ⟨(tickL n).toArray⟩) ∧ Below w.heap.size w w' := by
  have ht : isT (n : Int) = true := isT_true (by omega) h
  have Ht := Lib.hid htab
  clear htab
  have HD : Hid (Lib.itoa (1000 + (n : Int) % 1000) = 49 :: frac (n % 1000)) := by
    have := Lib.itoa_nonneg (1000 + n % 1000)
    rw [digits_1000 _ (by omega), show ((1000 + n % 1000 : Nat) : Int) = 1000 + (n : Int) % 1000 by omega] at this
    exact this
  have HL : Hid (Lib.itoa ((n : Int) / 1000) = Lib.decDigits (n / 1000)) := by
    have := Lib.itoa_nonneg (n / 1000)
    rw [show ((n / 1000 : Nat) : Int) = (n : Int) / 1000 by omega] at this
    exact this
  have hlen := Lib.itoa_length_le ((n : Int) / 1000) (by omega) (by omega)
  go_enter Tryd.func15, Tryd.ntmps15
  go_wp2_with (go_at_call 11; with_reducible refine (implTickOk_any _ _).mono ?_; rintro e w1 ⟨rfl, hb1⟩)
  refine (itoa_any _ w1 (by omega) (by omega) (Ht.out.below hb1)).mono ?_
  rw [HD.out]
  rintro e w2 ⟨rfl, hb2⟩
  have HX : Hid ((⟨(49 :: frac (n % 1000)).toArray⟩ : ByteArray).extract 1 4 = ⟨(frac (n % 1000)).toArray⟩) := by
    apply ByteArray.ext
    simp [frac, ByteArray.data_extract]
  have hF : (frac (n % 1000)).length = 3 := rfl
  generalize hE : frac (n % 1000) = F at HX hF ⊢
  have HE := Lib.hid hE
  clear hE
  go_wp2_with fail
  refine (itoa_any _ w2 (by omega) (by omega) (Ht.out.below (bel_trans hb1 hb2))).mono ?_
  rintro e w3 ⟨rfl, hb3⟩
  rw [HX.out]
  generalize Lib.itoa ((n : Int) / 1000) = L at hlen HL ⊢
  go_wp2
  go_ret
  exact ⟨congrArg (fun x => Ending.returned (.string x)) (cat_tick2 HL.out HE.out), bel_trans (bel_trans hb1 hb2) hb3⟩

theorem implTickText_no (t : Int) (w : World) (h : isT t = false) : Calls Tryd.prog 15 #[.int .i64 t] w fun e w' => e = .returned (.string ⟨#[]⟩) ∧ Below w.heap.size w w' := by
  go_enter Tryd.func15, Tryd.ntmps15
  go_wp2_with (go_at_call 11; with_reducible refine (implTickOk_any _ _).mono ?_; rintro e w1 ⟨rfl, hb1⟩)
  go_ret
  exact ⟨rfl, hb1⟩

/-- The text of a tick, and the empty list of every other number. -/
def textT (t : Int) : List UInt8 := if isT t = true then tickL t.toNat else []

theorem textT_len (t : Int) : (textT t).length ≤ 30 := by
  unfold textT
  split
  · unfold tickL
    have h := isT_iff.1 ‹_›
    have := Lib.itoa_length_le ((t.toNat / 1000 : Nat) : Int) (by omega) (by omega)
    rw [Lib.itoa_nonneg] at this
    simp [frac]
    omega
  · simp

theorem specTickText_any (t : Int) (w : World) : Calls Tryd.prog 19 #[.int .i64 t] w fun e w' => e = .returned (.string ⟨(textT t).toArray⟩) ∧ Below w.heap.size w w' := by
  cases h : isT t
  · rw [show textT t = [] by unfold textT; rw [h]; rfl]
    exact (specTickText_no t w h).mono fun _ _ ⟨he, hw⟩ => ⟨he, by rw [← hw]; exact Below.refl _ _⟩
  · have hi := isT_iff.1 h
    obtain ⟨n, rfl⟩ := Int.eq_ofNat_of_zero_le hi.1
    rw [show textT (n : Int) = tickL n by unfold textT; rw [if_pos h, Int.toNat_natCast]]
    exact specTickText_yes n w hi.2

theorem implTickText_any (t : Int) (w : World) (ht : Tab w) : Calls Tryd.prog 15 #[.int .i64 t] w fun e w' => e = .returned (.string ⟨(textT t).toArray⟩) ∧ Below w.heap.size w w' := by
  cases h : isT t
  · rw [show textT t = [] by unfold textT; rw [h]; rfl]
    exact implTickText_no t w h
  · have hi := isT_iff.1 h
    obtain ⟨n, rfl⟩ := Int.eq_ofNat_of_zero_le hi.1
    rw [show textT (n : Int) = tickL n by unfold textT; rw [if_pos h, Int.toNat_natCast]]
    exact implTickText_yes n w hi.2 ht

theorem lawTickText (t : Int) (w : World) (ht : Tab w) : Calls Tryd.prog 4 #[.int .i64 t] w fun e w' => e = .returned (.bool true) ∧ Below w.heap.size w w' := by
  have Ht := Lib.hid ht
  clear ht
  go_enter Tryd.func4, Tryd.ntmps4
  go_wp2_with fail
  refine (specTickText_any _ _).mono ?_
  rintro e w1 ⟨rfl, hb1⟩
  go_wp2_with fail
  refine (implTickText_any _ _ (Ht.out.below hb1)).mono ?_
  rintro e w2 ⟨rfl, hb2⟩
  go_wp2
  go_ret
  exact ⟨rfl, bel_trans hb1 hb2⟩
end Go.Proofs.YtjlebljcglicfaaDoor.Num
