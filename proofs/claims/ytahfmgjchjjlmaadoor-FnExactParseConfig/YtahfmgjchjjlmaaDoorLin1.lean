/- The program's linesOf: the lines of a text. -/
import Derived.Test.YtahfmgjchjjlmaaDoorParts1
import Derived.Lib.OthersKept
import Derived.Laws.RangeString
import Derived.WalkSmall
namespace Go.Proofs.YtahfmgjchjjlmaaDoor.Parts
open Go.RowKit Base

def linesT (l : List UInt8) : List (List UInt8) := if (parts 10 l).getLast? = some [] then (parts 10 l).dropLast else parts 10 l

def IsLines (w : World) (l : List UInt8) (e : Ending) (w' : World) : Prop :=
  ∃ (A : Option Addr) (n cap : Nat) (ss : List ByteArray), e = .returned (.slice A n cap) ∧ ss.length = n ∧ n ≤ l.length + 1 ∧ Strs w' A ss ∧ ss.map (·.data.toList) = linesT l ∧ Below w.heap.size w w'

theorem get_byte (s : ByteArray) (i : Nat) (h : i < s.size) : s.get! i = s[i] := by
  show s.data[i]! = s.data[i]
  rw [getElem!_pos s.data i h]

theorem decode_far (s : ByteArray) (pos : Nat) (h : pos < s.size) (hi : 128 ≤ (s[pos]'h).toNat) :
    128 ≤ (Utf8.decode s pos).1 ∧ 1 ≤ (Utf8.decode s pos).2 ∧ pos + (Utf8.decode s pos).2 ≤ s.size ∧ ∀ j, j < (Utf8.decode s pos).2 → 128 ≤ (s.get! (pos + j)).toNat := by
  have h0 : s.get! (pos + 0) = s[pos] := get_byte s pos h
  have hr : 128 ≤ Utf8.runeError := by decide
  rw [← h0] at hi
  simp only [Utf8.decode]
  split
  · omega
  · split
    · next h1 =>
      simp at h1
      split
      · refine ⟨by assumption, by omega, by omega, fun j hj => ?_⟩
        match j, hj with
        | 0, _ => exact hi
        | 1, _ => omega
      · exact ⟨hr, by omega, by omega, fun j hj => by obtain rfl : j = 0 := by omega
                                                      exact hi⟩
    · split
      · next h1 =>
        simp at h1
        split
        · next h2 =>
          simp at h2
          refine ⟨by simp only [Nat.add_zero] at *; omega, by omega, by omega, fun j hj => ?_⟩
          match j, hj with
          | 0, _ => exact hi
          | 1, _ => omega
          | 2, _ => omega
        · exact ⟨hr, by omega, by omega, fun j hj => by obtain rfl : j = 0 := by omega
                                                        exact hi⟩
      · split
        · next h1 =>
          simp at h1
          split
          · next h2 =>
            simp at h2
            refine ⟨by simp only [Nat.add_zero] at *; omega, by omega, by omega, fun j hj => ?_⟩
            match j, hj with
            | 0, _ => exact hi
            | 1, _ => omega
            | 2, _ => omega
            | 3, _ => omega
          · exact ⟨hr, by omega, by omega, fun j hj => by obtain rfl : j = 0 := by omega
                                                          exact hi⟩
        · exact ⟨hr, by omega, by omega, fun j hj => by obtain rfl : j = 0 := by omega
                                                        exact hi⟩

theorem Cut.misses {c : UInt8} {l : List UInt8} {ss : List ByteArray} {a i : Nat} (h : Cut c l ss a i) : ∀ k, i + k ≤ l.length → (∀ j, (hj : j < k) → (hl : i + j < l.length) → l[i + j] ≠ c) → Cut c l ss a (i + k)
  | 0, _, _ => h
  | k + 1, hl, hn => by
    have h1 := h.misses k (by omega) fun j hj hl' => hn j (by omega) hl'
    exact h1.miss (by omega) (hn k (by omega) (by omega))

theorem own_iterAt {W : World} {ib n : Nat} {t : TypeId} {v : Value} {xs : List Value} (h : W.ownsRow (ib + 1) t 1 v n xs) (s : ByteArray) (p : Nat) : (W.iterAt ib s p).ownsRow (ib + 1) t 1 v n xs := by
  refine h.kept (row := some ib) ⟨rfl, rfl, rfl, by rw [Lib.iterAt_size]; exact Nat.le_refl _, fun k _ hk => ?_⟩ ?_
  · exact Lib.iterAt_other W ib k s p fun e => hk (by rw [e])
  · cases hv : v.ownBlock with
    | none => exact .inl rfl
    | some g =>
      have := (h.lt g hv).1
      refine .inr fun e => ?_
      have : g = ib := Option.some.inj e
      omega

theorem lines_last {l : List UInt8} {ss : List ByteArray} {m : Nat} {p : ByteArray} (h : Cut 10 l ss m l.length) (hp : p.data.toList = (l.drop m).take (l.length - m)) (hm : m < l.length) : (ss ++ [p]).map (·.data.toList) = linesT l := by
  have h1 := (h.last hp).all rfl
  have hne : p.data.toList ≠ [] := by
    intro e
    have := congrArg List.length (hp.symm.trans e)
    simp at this
    omega
  unfold linesT
  rw [← h1, if_neg]
  simp [hne]

theorem lines_none {l : List UInt8} {ss : List ByteArray} (h : Cut 10 l ss l.length l.length) : ss.map (·.data.toList) = linesT l := by
  have h1 := h.some (Nat.le_refl _)
  rw [List.drop_length, Nat.sub_self, List.take_zero] at h1
  have e : glue [] (parts 10 []) = [[]] := rfl
  rw [e] at h1
  unfold linesT
  rw [← h1, if_pos]
  · simp
  · simp

theorem byte_ne {s : ByteArray} {i : Nat} {c : UInt8} (hi : i < s.data.toList.length) (h : 128 ≤ (s.get! i).toNat) (hc : c.toNat < 128) : s.data.toList[i] ≠ c := by
  have hl : i < s.size := by rw [Array.length_toList] at hi; exact hi
  rw [get_byte s i hl] at h
  intro e
  have e2 : s[i] = c := e
  rw [e2] at h
  omega

set_option maxRecDepth 100000 in
set_option maxHeartbeats 2000000 in
theorem linesOf_any (s : ByteArray) (w : World) (hs : s.size ≤ 1048576) : Calls Tryd.prog 31 #[.string s] w (IsLines w s.data.toList) := by
  have hlen : s.data.toList.length = s.size := by rw [Array.length_toList]; rfl
  obtain ⟨i0, hi, hz0, hz1, hz2⟩ := info_parts infoStr
  have Hi := Lib.hid hi
  have Hz0 := Lib.hid hz0
  have Hz1 := Lib.hid hz1
  have Hz2 := Lib.hid hz2
  clear hi hz0 hz1 hz2
  have Hlen := Lib.hid hlen
  clear hlen
  go_enter Tryd.func31, Tryd.ntmps31
  go_wp2
  go_loopw [3, 4] (fun v a wr => ∃ (k m : Nat) (ss : List ByteArray), a = .int .i64 m ∧ Cut 10 s.data.toList ss m k ∧ wr.ownsRow (w.heap.size + 1) 9 1 v ss.length (ss.map Value.string) ∧ wr.heap[w.heap.size]? = some (.stringIter s k) ∧ k ≤ s.size ∧ w.heap.size + 1 ≤ wr.heap.size ∧ Below w.heap.size w wr) (fun _ _ wr => s.size - wr.iterPos w.heap.size)
  case atStart => exact ⟨0, 0, [], rfl, Cut.start 10 _, World.ownsRow_nil _ _ _ _, by show (w.heap.push _)[w.heap.size]? = _; simp, Nat.zero_le _, by show _ ≤ (w.heap.push _).size; simp, bel_alloc _ _⟩
  case round =>
    obtain ⟨k, m, ss, rfl, hcut, hown, hit, hks, hws, hbel⟩ := hrel
    have hfr := hcut.from_
    have hct := hcut.count
    have HI := Lib.hid hit
    have HP := Lib.hid (iterPos_of hit)
    by_cases hk : k < s.size
    · have HC := Lib.hid hcut
      have HO := Lib.hid hown
      have HB := Lib.hid hbel
      clear hcut hown hbel hit
      have hkl : k < s.data.toList.length := by rw [Hlen.out]; exact hk
      have egt : s.data.toList[k] = s[k] := rfl
      have Hg := Lib.hid egt
      clear egt
      by_cases ha : (s[k]'hk).toNat < 128
      · have hnx : ∀ ty, (Instr.next (.pointer (some ⟨w.heap.size, 0, none⟩)) true ty).run Tryd.prog wr = .ok (.tuple #[.bool true, .int .i64 k, .int .i32 (s[k]'hk).toNat]) (wr.iterAt w.heap.size s (k + 1)) := fun ty => Lib.run_next_ascii_at wr w.heap.size s k ty HI.out hk ha
        have HO2 := Lib.hid (own_iterAt HO.out s (k + 1))
        have HI2 := Lib.hid (Lib.iterAt_heap wr w.heap.size s k (k + 1) HI.out)
        have HB2 := Lib.hid (Lib.below_iterAt HB.out (Nat.le_refl _) s (k + 1))
        have hw2 : w.heap.size + 1 ≤ (wr.iterAt w.heap.size s (k + 1)).heap.size := by rw [Lib.iterAt_size]; exact hws
        clear HO HI HB
        generalize wr.iterAt w.heap.size s (k + 1) = v1 at hnx HO2 HI2 HB2 hw2
        by_cases e : s[k] = 10
        · have hby : ((s[k].toNat : Int) == 10) = true := by rw [e]; rfl
          have HN := Lib.hid (HC.out.hit (p := s.extract m k) hkl (Hg.out.trans e) (Lib.extract_data s m k))
          clear e ha
          go_wp2_with (at_builtin; refine wpList_append_own _ rfl _ _ 34 rfl (w.heap.size + 1) 9 i0 (.string ByteArray.empty) 1 16 Tryd.underlying34 Hi.out Hz0.out Hz1.out Hz2.out rfl (by decide) _ _ _ rfl (HO2.out.alloc _) ⟨v1.heap.size, 0, none⟩ 1 1 [.string (s.extract m k)] rfl rfl ?c1h ?c2h ?c3h ?c4h ?c5h ?_)
          case c1h => exact new_one _ _ _
          case c2h => exact one_string _
          case c3h => unfold maxLen; omega
          case c4h => omega
          case c5h => simp; omega
          · intro v' w1 hown' hgrow _
            have HO1 := Lib.hid (by simpa using hown' : w1.ownsRow (w.heap.size + 1) 9 1 v' (ss ++ [s.extract m k]).length ((ss ++ [s.extract m k]).map Value.string))
            have HB3 := Lib.hid ((HB2.out.alloc HB2.out.size _).grown hgrow (by simp; omega) (fun g hg => by have := (HO2.out.lt g hg).1; omega))
            have hz := hgrow.size
            rw [World.size_alloc] at hz
            have HI3 := Lib.hid (((hgrow.block w.heap.size (by rw [World.size_alloc]; omega) (fun e => by have := (HO2.out.lt _ e.symm).1; omega)).trans ((bel_alloc v1 _).block w.heap.size (by omega))).trans HI2.out)
            clear hown' hgrow HO2 HB2
            go_wp2
            go_roundw
            case rel => exact ⟨k + 1, k + 1, _, by go_num, HN.out, HO1.out, HI3.out, by omega, by omega, HB3.out⟩
            case measure => rw [HP.out, iterPos_of HI3.out]; omega
        · have hby : ((s[k].toNat : Int) == 10) = false := by
            rw [beq_eq_false_iff_ne]
            intro h
            exact e (UInt8.toNat_inj.1 (show s[k].toNat = 10 by omega))
          have HN := Lib.hid (HC.out.miss hkl (fun h => e (Hg.out.symm.trans h)))
          clear e ha
          go_wp2
          go_roundw
          case rel => exact ⟨k + 1, m, ss, rfl, HN.out, HO2.out, HI2.out, by omega, hw2, HB2.out⟩
          case measure => rw [HP.out, iterPos_of HI2.out]; omega
      · have hf := decode_far s k hk (by omega)
        have HN : Hid (Cut 10 s.data.toList ss m (k + (Utf8.decode s k).2)) := HC.out.misses _ (by rw [Hlen.out]; exact hf.2.2.1) fun j hj hl => byte_ne hl (hf.2.2.2 j hj) (by decide)
        have hnx : ∀ ty, (Instr.next (.pointer (some ⟨w.heap.size, 0, none⟩)) true ty).run Tryd.prog wr = .ok (.tuple #[.bool true, .int .i64 k, .int .i32 (Utf8.decode s k).1]) (wr.iterAt w.heap.size s (k + (Utf8.decode s k).2)) := fun ty => Lib.run_next_any_at wr w.heap.size s k ty HI.out hk
        obtain ⟨hf1, hf2, hf3, -⟩ := hf
        generalize (Utf8.decode s k).1 = r at hf1 hnx
        generalize (Utf8.decode s k).2 = d at hf2 hf3 hnx HN
        have hby : ((r : Int) == 10) = false := by simp; omega
        have HO2 := Lib.hid (own_iterAt HO.out s (k + d))
        have HI2 := Lib.hid (Lib.iterAt_heap wr w.heap.size s k (k + d) HI.out)
        have HB2 := Lib.hid (Lib.below_iterAt HB.out (Nat.le_refl _) s (k + d))
        have hw2 : w.heap.size + 1 ≤ (wr.iterAt w.heap.size s (k + d)).heap.size := by rw [Lib.iterAt_size]; exact hws
        clear HO HI HB
        generalize wr.iterAt w.heap.size s (k + d) = v1 at hnx HO2 HI2 HB2 hw2
        go_wp2
        go_roundw
        case rel => exact ⟨k + d, m, ss, rfl, HN.out, HO2.out, HI2.out, by omega, hw2, HB2.out⟩
        case measure => rw [HP.out, iterPos_of HI2.out]; omega
    · obtain rfl : k = s.size := by omega
      have hnx : ∀ ty, (Instr.next (.pointer (some ⟨w.heap.size, 0, none⟩)) true ty).run Tryd.prog wr = .ok (.tuple #[.bool false]) wr := fun ty => Lib.run_next_end_at wr w.heap.size s s.size ty HI.out hk
      clear hk hit
      have HO := Lib.hid hown
      have HB := Lib.hid hbel
      have HC : Hid (Cut 10 s.data.toList ss m s.data.toList.length) := by rw [Hlen.out]; exact hcut
      clear hown hbel hcut
      by_cases hm : m < s.size
      · have HL := Lib.hid (lines_last (p := s.extract m s.size) HC.out (by rw [Hlen.out]; exact Lib.extract_data s m s.size) (by rw [Hlen.out]; exact hm))
        go_wp2_with (at_builtin; refine wpList_append_own _ rfl _ _ 34 rfl (w.heap.size + 1) 9 i0 (.string ByteArray.empty) 1 16 Tryd.underlying34 Hi.out Hz0.out Hz1.out Hz2.out rfl (by decide) _ _ _ rfl (HO.out.alloc _) ⟨wr.heap.size, 0, none⟩ 1 1 [.string (s.extract m s.size)] rfl rfl ?c1z ?c2z ?c3z ?c4z ?c5z ?_)
        case c1z => exact new_one _ _ _
        case c2z => exact one_string _
        case c3z => unfold maxLen; omega
        case c4z => omega
        case c5z => simp; omega
        · intro v' w1 hown' hgrow _
          have HO1 := Lib.hid (by simpa using hown' : w1.ownsRow (w.heap.size + 1) 9 1 v' (ss ++ [s.extract m s.size]).length ((ss ++ [s.extract m s.size]).map Value.string))
          have HB3 := Lib.hid ((HB.out.alloc HB.out.size _).grown hgrow (by simp; omega) (fun g hg => by have := (HO.out.lt g hg).1; omega))
          clear hown' hgrow HO HB
          obtain ⟨A, cap, rfl⟩ := own_slice HO1.out
          have HS := Lib.hid (strs_of_own HO1.out)
          go_wp2
          go_ret
          exact ⟨A, _, cap, _, rfl, by simp, by rw [Hlen.out]; omega, HS.out.2, HL.out, HB3.out⟩
      · obtain rfl : m = s.size := by omega
        have HL : Hid (ss.map (·.data.toList) = linesT s.data.toList) := by
          have h := HC.out
          refine lines_none ?_
          rw [Hlen.out] at h ⊢
          exact h
        obtain ⟨A, cap, rfl⟩ := own_slice HO.out
        have HS := Lib.hid (strs_of_own HO.out)
        go_wp2
        go_ret
        exact ⟨A, _, cap, _, rfl, rfl, by rw [Hlen.out]; omega, HS.out.2, HL.out, HB.out⟩
end Go.Proofs.YtahfmgjchjjlmaaDoor.Parts
