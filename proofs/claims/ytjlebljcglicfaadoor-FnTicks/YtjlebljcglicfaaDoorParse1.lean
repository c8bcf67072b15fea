/- The program's ParseTick: for every text the tick whose text it is, and true, or 0 and false if there is none. -/
import Derived.Test.YtjlebljcglicfaaDoorText2
import Derived.WalkSmall
namespace Go.Proofs.YtjlebljcglicfaaDoor.Num
open Go.RowKit Base Tick

def Es (w : World) : Prop := ∃ tp p, w.var? Tryd.prog "strconv.ErrSyntax" = some #[.iface tp p]

theorem gEs : Tryd.prog.globalNamed "strconv.ErrSyntax" = some 0 := by kernel_rfl

theorem Es.below {w w' : World} (h : Es w) (hb : Below w.heap.size w w') : Es w' := by
  obtain ⟨tp, p, hv⟩ := h
  have hc := World.var?_cell gEs hv 0
  have hlt : 0 < w.heap.size := World.block_lt_of_cell? _ _ (by simpa using hc)
  exact ⟨tp, p, var?_below hb gEs hlt hv⟩

/-- What ParseTick owes at the text s: v and b. -/
def ParseOk (s : List UInt8) (v : Int) (b : Bool) : Prop :=
  (b = true ∧ isT v = true ∧ tickL v.toNat = s) ∨ (b = false ∧ v = 0 ∧ ∀ n : Nat, n ≤ 1000000000 → tickL n ≠ s)

theorem ParseOk.det {s : List UInt8} {v v' : Int} {b b' : Bool} (h : ParseOk s v b) (h' : ParseOk s v' b') : v = v' ∧ b = b' := by
  rcases h with ⟨rfl, ht, hs⟩ | ⟨rfl, rfl, hn⟩ <;> rcases h' with ⟨rfl, ht', hs'⟩ | ⟨rfl, rfl, hn'⟩
  · have e := tickL_inj (hs.trans hs'.symm)
    have a := isT_iff.1 ht
    have b := isT_iff.1 ht'
    exact ⟨by omega, rfl⟩
  · exact absurd hs (hn' _ (by have := isT_iff.1 ht; omega))
  · exact absurd hs' (hn _ (by have := isT_iff.1 ht'; omega))
  · exact ⟨rfl, rfl⟩

theorem ParseOk.no_len {s : List UInt8} (h : s.length < 5 ∨ 11 < s.length) : ParseOk s 0 false :=
  .inr ⟨rfl, rfl, fun n hn e => by have := tickL_bounds n hn; rw [e] at this; omega⟩

theorem textT_tick {t : Int} {s : List UInt8} (h : textT t = s) (hs : 0 < s.length) : isT t = true ∧ tickL t.toNat = s := by
  unfold textT at h
  split at h
  · exact ⟨‹_›, h⟩
  · subst h; simp at hs

theorem textT_nat (n : Nat) (h : n ≤ 1000000000) : textT (n : Int) = tickL n := by
  unfold textT; rw [if_pos (isT_true (by omega) (by omega)), Int.toNat_natCast]

theorem len_step {m : Nat} (h : ¬ m < 10) : (Lib.decDigits m).length = (Lib.decDigits (m / 10)).length + 1 := by
  rw [decDigits_ten h, List.length_append]; rfl

theorem tickL_max : (tickL 1000000000).length = 11 := by
  rw [tickL_len, show 1000000000 / 1000 = 1000000 from rfl, len_step (by omega), show 1000000 / 10 = 100000 from rfl, len_step (by omega), show 100000 / 10 = 10000 from rfl, len_step (by omega), show 10000 / 10 = 1000 from rfl, len_step (by omega), show 1000 / 10 = 100 from rfl, len_step (by omega), show 100 / 10 = 10 from rfl, len_step (by omega), show 10 / 10 = 1 from rfl, Lib.decDigits_one (by omega)]
  rfl

def Pair (w : World) (P : Int → Bool → Prop) (e : Ending) (w' : World) : Prop := ∃ v b, e = .returned (.tuple #[.int .i64 v, .bool b]) ∧ P v b ∧ Below w.heap.size w w'

theorem maxText (w : World) (ht : Tab w) : Calls Tryd.prog 15 #[.int .i64 1000000000] w fun e w' => e = .returned (.string ⟨(tickL 1000000000).toArray⟩) ∧ Below w.heap.size w w' :=
  implTickText_yes 1000000000 w (by omega) ht

theorem atoi_yes (s : ByteArray) (n : Int) (w : World) (hl : s.size ≤ 18) (h : Lib.atoi s.data.toList = some n) :
    Calls Tryd.prog 26 #[.string s] w fun e w' => e = .returned (.tuple #[.int .i64 n, .nilIface]) ∧ Below w.heap.size w w' :=
  (Tryd.strconv_Atoi s n hl h w).mono fun _ _ ⟨he, t, hw⟩ => ⟨he, by rw [hw]; exact Joins.below_bytesWorld _ _ _ _ (Nat.le_refl _)⟩

def AtoiErr (w : World) (e : Ending) (w' : World) : Prop := ∃ N, e = .returned (.tuple #[.int .i64 0, .iface 56 (.pointer (some ⟨N, 0, none⟩))]) ∧ Below w.heap.size w w'

theorem atoi_no (s : ByteArray) (w : World) (hl : s.size ≤ 18) (h : Lib.atoi s.data.toList = none) (he : Es w) : Calls Tryd.prog 26 #[.string s] w (AtoiErr w) := by
  obtain ⟨tp, p, hv⟩ := he
  exact (Tryd.strconv_Atoi_err_var s hl h tp p w hv).mono fun _ _ ⟨N, he, _, _, hb⟩ => ⟨N, he, hb⟩

theorem implParseTick_len (s : ByteArray) (w : World) (hm : s.size ≤ maxLen) (ht : Tab w) (hs : s.size < 5 ∨ 11 < s.size) : Calls Tryd.prog 14 #[.string s] w (Pair w (ParseOk s.data.toList)) := by
  unfold maxLen at hm
  have Ht := Lib.hid ht
  clear ht
  have HP : Hid (ParseOk s.data.toList 0 false) := ParseOk.no_len (by rw [Array.length_toList]; exact hs)
  rcases hs with hs | hs
  · go_enter Tryd.func14, Tryd.ntmps14
    go_wp2
    go_ret2
    exact ⟨0, false, rfl, HP.out, Below.refl _ _⟩
  · have hl := tickL_max
    have Hc := Lib.hid (maxText w Ht.out)
    generalize tickL 1000000000 = L at hl Hc
    go_enter Tryd.func14, Tryd.ntmps14
    go_wp2_with fail
    refine Hc.out.mono ?_
    rintro e w1 ⟨rfl, hb1⟩
    go_wp2
    go_ret2
    exact ⟨0, false, rfl, HP.out, hb1⟩

theorem cut_list (s : ByteArray) (k : Nat) (hk : s.size = k + 5) : (s.extract 0 (k + 1) ++ s.extract (k + 1 + 1) (k + 5)).data.toList = s.data.toList.take (k + 1) ++ s.data.toList.drop (k + 2) := by
  have e : s.data.toList.length = k + 5 := by rw [Array.length_toList]; exact hk
  rw [ByteArray.data_append, Array.toList_append, ByteArray.data_extract, ByteArray.data_extract, Array.toList_extract, Array.toList_extract]
  simp only [List.extract_eq_take_drop, List.drop_zero, Nat.sub_zero]
  congr 1
  rw [List.take_of_length_le]
  simp [hk]

theorem cut_size (s : ByteArray) (k : Nat) (hk : s.size = k + 5) (h6 : k ≤ 6) : (s.extract 0 (k + 1) ++ s.extract (k + 1 + 1) (k + 5)).size ≤ 18 := by
  have e := congrArg List.length (cut_list s k hk)
  have e2 : s.data.toList.length = k + 5 := by rw [Array.length_toList]; exact hk
  rw [Array.length_toList, List.length_append, List.length_take, List.length_drop, e2] at e
  show (s.extract 0 (k + 1) ++ s.extract (k + 1 + 1) (k + 5)).data.size ≤ 18
  omega

theorem atoi_cut {s : ByteArray} {k n : Nat} (hk : s.size = k + 5) (h : tickL n = s.data.toList) : Lib.atoi (s.data.toList.take (k + 1) ++ s.data.toList.drop (k + 2)) = some (n : Int) := by
  have e2 : s.data.toList.length = k + 5 := by rw [Array.length_toList]; exact hk
  have h1 := tickL_take n
  have h2 := tickL_drop n
  rw [h, e2] at h1 h2
  rw [show k + 1 = k + 5 - 4 by omega, show k + 2 = k + 5 - 3 by omega, h1, h2]
  exact atoi_tick n

set_option maxHeartbeats 800000 in
theorem implParseTick_mid (s : ByteArray) (w : World) (k : Nat) (hk : s.size = k + 5) (hk6 : k ≤ 6) (ht : Tab w) (he : Es w) : Calls Tryd.prog 14 #[.string s] w (Pair w (ParseOk s.data.toList)) := by
  have Ht := Lib.hid ht
  clear ht
  have He := Lib.hid he
  clear he
  have hl := tickL_max
  have Hc := Lib.hid (maxText w Ht.out)
  have HZ := Lib.hid (cut_size s k hk hk6)
  have HC := Lib.hid (cut_list s k hk)
  have s1 : (0 : Int) ≤ (k : Int) + 1 := by omega
  have q1 : IntKind.i64.wrap ((k : Int) + 1 + 1) = (k : Int) + 1 + 1 := IntWalk.i64_in _ (by omega)
  have q2 : ((k : Int) + 1 + 1).toNat = k + 1 + 1 := by omega
  have s2 : (k : Int) + 1 + 1 ≤ (k : Int) + 5 := by omega
  have s3 : (0 : Int) ≤ (k : Int) + 1 + 1 := by omega
  have s4 : (k : Int) + 1 ≤ (k : Int) + 5 := by omega
  have HA := Lib.hid fun (n : Nat) (h : tickL n = s.data.toList) => atoi_cut hk h
  generalize tickL 1000000000 = L at hl Hc
  cases hat : Lib.atoi (s.data.toList.take (k + 1) ++ s.data.toList.drop (k + 2)) with
  | none =>
    have HP : Hid (ParseOk s.data.toList 0 false) := .inr ⟨rfl, rfl, fun n _ e => by have := HA.out n e; rw [hat] at this; cases this⟩
    have Hat := Lib.hid hat
    clear hat
    go_enter Tryd.func14, Tryd.ntmps14
    go_wp2_with fail
    refine Hc.out.mono ?_
    rintro e w1 ⟨rfl, hb1⟩
    go_wp2
    rw [show (k : Int) + 5 - 4 = (k : Int) + 1 by omega]
    go_region_with (go_at_call 26; refine (atoi_no _ _ HZ.out (by rw [HC.out]; exact Hat.out) (He.out.below hb1.drew)).mono ?_; rintro e w2 ⟨N, rfl, hb2⟩)
    all_goals
      go_wp2
      go_ret2
      exact ⟨0, false, rfl, HP.out, bel_trans hb1 (bel_of_drew hb2)⟩
  | some n =>
    have Hat := Lib.hid hat
    clear hat
    have hbd := Lib.atoi_bound (HC.out ▸ Hat.out) (by rw [Array.length_toList]; exact HZ.out)
    obtain ⟨n0, n1⟩ := hbd
    have hlen := textT_len n
    by_cases hx : textT n = s.data.toList
    · have HP : Hid (ParseOk s.data.toList n true) := by
        have := textT_tick hx (by rw [Array.length_toList]; show 0 < s.size; omega)
        exact .inl ⟨rfl, this.1, this.2⟩
      have HT := Lib.hid fun W ht => implTickText_any n W ht
      generalize textT n = X at hlen hx HT
      subst hx
      go_enter Tryd.func14, Tryd.ntmps14
      go_wp2_with fail
      refine Hc.out.mono ?_
      rintro e w1 ⟨rfl, hb1⟩
      go_wp2
      rw [show (k : Int) + 5 - 4 = (k : Int) + 1 by omega]
      go_region_with (go_at_call 26; refine (atoi_yes _ n _ HZ.out (by rw [HC.out]; exact Hat.out)).mono ?_; rintro e w2 ⟨rfl, hb2⟩)
      all_goals
        have hb3 := bel_trans hb1 (bel_of_drew hb2)
        clear q1 q2
        go_wp2_with fail
        refine (HT.out _ (Ht.out.below hb3)).mono ?_
        rintro e w3 ⟨rfl, hb4⟩
        go_wp2
        go_ret2
        exact ⟨n, true, rfl, HP.out, bel_trans hb3 hb4⟩
    · have HP : Hid (ParseOk s.data.toList 0 false) := .inr ⟨rfl, rfl, fun m hm e => by
        have h1 := HA.out m e
        rw [Hat.out] at h1
        have h2 : n = (m : Int) := Option.some.inj h1
        subst h2
        exact hx ((textT_nat m hm).trans e)⟩
      have HT := Lib.hid fun W ht => implTickText_any n W ht
      generalize textT n = X at hlen hx HT
      have hx1 : (X == s.toList) = false := by rw [ByteArray.toList_eq, beq_eq_false_iff_ne]; exact hx
      clear hx
      go_enter Tryd.func14, Tryd.ntmps14
      go_wp2_with fail
      refine Hc.out.mono ?_
      rintro e w1 ⟨rfl, hb1⟩
      go_wp2
      rw [show (k : Int) + 5 - 4 = (k : Int) + 1 by omega]
      go_region_with (go_at_call 26; refine (atoi_yes _ n _ HZ.out (by rw [HC.out]; exact Hat.out)).mono ?_; rintro e w2 ⟨rfl, hb2⟩)
      all_goals
        have hb3 := bel_trans hb1 (bel_of_drew hb2)
        clear q1 q2
        go_wp2_with fail
        refine (HT.out _ (Ht.out.below hb3)).mono ?_
        rintro e w3 ⟨rfl, hb4⟩
        go_wp2
        go_ret2
        exact ⟨0, false, rfl, HP.out, bel_trans hb3 hb4⟩

theorem implParseTick_any (s : ByteArray) (w : World) (hm : s.size ≤ maxLen) (ht : Tab w) (he : Es w) : Calls Tryd.prog 14 #[.string s] w (Pair w (ParseOk s.data.toList)) := by
  by_cases h : s.size < 5 ∨ 11 < s.size
  · exact implParseTick_len s w hm ht h
  · exact implParseTick_mid s w (s.size - 5) (by omega) (by omega) ht he
end Go.Proofs.YtjlebljcglicfaaDoor.Num
