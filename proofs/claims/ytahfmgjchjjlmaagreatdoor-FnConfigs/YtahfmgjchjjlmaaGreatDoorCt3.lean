/- The program's ConfigText. -/
import Derived.Test.YtahfmgjchjjlmaaGreatDoorCt2
import Derived.Test.YtahfmgjchjjlmaaGreatDoorTab1
namespace Go.Proofs.YtahfmgjchjjlmaaGreatDoor.Fm
open Go.RowKit Go.Deep Base Cf Ct

theorem tx_cat2 (c : Nat → Int) (k : Nat) : txA c k ++ (nmB k ++ (⟨#[61]⟩ : ByteArray) ++ ⟨(Lib.itoa (c k)).toArray⟩ ++ (⟨#[10]⟩ : ByteArray)) = txA c (k + 1) := by
  rw [← tx_cat]
  simp [ByteArray.append_assoc]

set_option maxRecDepth 100000 in
set_option maxHeartbeats 2000000 in
theorem implText_yes (c : Nat → Int) (w : World) (hok : okC c = true) (ht : Num.Tab w) :
    Calls Tryz.prog 6 #[.agg #[.int .i64 (c 0), .int .i64 (c 1), .int .i64 (c 2), .int .i64 (c 3), .int .i64 (c 4), .int .i64 (c 5), .int .i64 (c 6), .int .i64 (c 7), .int .i64 (c 8), .int .i64 (c 9), .int .i64 (c 10), .int .i64 (c 11), .int .i64 (c 12), .int .i64 (c 13)]] w fun e w' => e = .returned (.tuple #[.string (txA c 14), .bool true]) ∧ Below w.heap.size w w' := by
  have HF := Lib.hid (fit_ok hok)
  have HT := Lib.hid ht
  clear ht
  have hl : Nam.nmL.length = 14 := rfl
  have Hl := Lib.hid hl
  clear hl
  go_enter Tryz.func6, Tryz.ntmps6
  go_wp2_with fail
  have hK := heap_alloc_new w (.cells #[.int .i64 (c 0), .int .i64 (c 1), .int .i64 (c 2), .int .i64 (c 3), .int .i64 (c 4), .int .i64 (c 5), .int .i64 (c 6), .int .i64 (c 7), .int .i64 (c 8), .int .i64 (c 9), .int .i64 (c 10), .int .i64 (c 11), .int .i64 (c 12), .int .i64 (c 13)] 25)
  refine (implConfigOk_any c _).mono ?_
  rintro e w1 ⟨rfl, b1⟩
  rw [hok]
  clear hok
  have hs1 : w.heap.size < w1.heap.size := Nat.lt_of_lt_of_le (by simp) b1.size
  have K := Lib.hid ((b1.block w.heap.size (by simp)).trans hK)
  have B := Lib.hid (bel_trans (bel_alloc w _) b1)
  clear b1 hK
  go_wp2_with fail
  refine (fields_any _ _).mono ?_
  rintro e w2 ⟨l, rfl, hfull, hF, b2⟩
  have Hfull := Lib.hid hfull
  have HM := Lib.hid hF
  have z2 := hF.lt
  clear hfull hF
  replace K := Lib.hid ((b2.block w.heap.size hs1).trans K.out)
  replace B := Lib.hid (bel_trans B.out b2)
  have hs2 := Nat.lt_of_lt_of_le hs1 b2.size
  clear b2
  go_wp2_with fail
  refine (Nam.implNames_any _).mono ?_
  rintro e w3 ⟨rfl, r3, b3, z3⟩
  have R := Lib.hid r3
  replace HM := Lib.hid (HM.out.of_block (b3.block _ z2))
  replace K := Lib.hid ((b3.block w.heap.size hs2).trans K.out)
  replace B := Lib.hid (bel_trans B.out b3)
  have hs3 := Nat.lt_of_lt_of_le hs2 b3.size
  replace z2 := Nat.lt_of_lt_of_le z2 b3.size
  clear r3 b3
  obtain ⟨mb, hmb⟩ : ∃ mb, w1.heap.size = mb := ⟨_, rfl⟩
  obtain ⟨nb, hnb⟩ : ∃ nb, w2.heap.size = nb := ⟨_, rfl⟩
  rw [hmb] at HM z2 ⊢
  rw [hnb] at R z3 ⊢
  clear hmb hnb
  go_wp2
  go_loopw [5, 14] (fun t i wr => ∃ k : Nat, k ≤ 14 ∧ i = .int .i64 k ∧ t = .string (txA c k) ∧ Below w3.heap.size w3 wr) (fun _ i _ => 14 - (intOf i).toNat)
  case atStart => exact ⟨0, Nat.zero_le _, rfl, rfl, Below.refl _ _⟩
  case round =>
    obtain ⟨k, hk, rfl, rfl, hr⟩ := hrel
    have Hr := Lib.hid hr
    clear hr
    by_cases hlt : k < 14
    · have cn := ((R.out.of_block (Hr.out.block nb z3)) k (by have := Hl.out; omega)).1
      have cv := (World.cell?_of_block (Hr.out.block w.heap.size hs3)).trans (Cv.row_at K.out k hlt)
      have cl := look_yes (HM.out.of_block (Hr.out.block mb z2)) (Hfull.out.1 k hlt) Hfull.out.2.1
      have hsz : (txA c k).size ≤ 560 := by have := tx_len HF.out k (by omega); simp [txA, ByteArray.size] ; omega
      have hns : (nmB k).size ≤ 6 := nm_len k
      change wr.cell? ⟨nb, k, none⟩ = some (Value.string (nmB k)) at cn
      change _ = Result.ok (Value.pointer (some ⟨w.heap.size, k, none⟩)) wr at cl
      have hf := HF.out k hlt
      have HC := Lib.hid (tx_cat2 c k)
      obtain ⟨nx, hnx⟩ : ∃ nx, txA c (k + 1) = nx := ⟨_, rfl⟩
      rw [hnx] at HC
      have HX := Lib.hid hnx
      clear hnx
      generalize txA c k = cur at HC hsz ⊢
      generalize nmB k = nm at HC hns cn cl
      have hil := Lib.itoa_length_le (c k) (by omega) (by omega)
      have HN : Hid (∀ W, Num.Tab W → Calls Tryz.prog 14 #[.int .i64 (c k)] W fun e w' => e = .returned (.string ⟨(Lib.itoa (c k)).toArray⟩) ∧ Below W.heap.size W w') := fun W hW => Num.itoa_any (c k) W (by omega) (by omega) hW
      generalize hI : (⟨(Lib.itoa (c k)).toArray⟩ : ByteArray) = it at HN HC
      have hit : it.size ≤ 21 := by rw [← hI]; simp [ByteArray.size]; omega
      clear hI hil
      have hk0 : (0 : Int) ≤ (k : Int) := by omega
      have hk1 : (k : Int) < 14 := by omega
      have HTr := Lib.hid (HT.out.below (bel_trans B.out Hr.out))
      go_wp2_with fail
      refine (HN.out _ HTr.out).mono ?_
      rintro e w4 ⟨rfl, b4⟩
      have B4 := Lib.hid (bel_trans Hr.out b4)
      clear b4 HN HTr
      have hs5 : (nm ++ (⟨#[61]⟩ : ByteArray)).size = nm.size + 1 := by simp; rfl
      have hs6 : (nm ++ (⟨#[61]⟩ : ByteArray) ++ it).size = nm.size + 1 + it.size := by simp; rfl
      have hs7 : (nm ++ (⟨#[61]⟩ : ByteArray) ++ it ++ (⟨#[10]⟩ : ByteArray)).size = nm.size + 1 + it.size + 1 := by simp; rfl
      go_wp2
      rw [HC.out]
      go_roundw
      case rel => exact ⟨k + 1, by omega, by go_num, by rw [HX.out], B4.out⟩
      case measure => simp [intOf]; omega
    · obtain rfl : k = 14 := by omega
      go_wp2
      exact bodyPost_ret (v := .tuple #[.string (txA c 14), .bool true]) (by simp [results, Tryz.results6, go_sem]) rfl ⟨rfl, bel_trans B.out Hr.out⟩

set_option maxRecDepth 100000 in
set_option maxHeartbeats 2000000 in
theorem implText_no (c : Nat → Int) (w : World) (hok : okC c = false) :
    Calls Tryz.prog 6 #[.agg #[.int .i64 (c 0), .int .i64 (c 1), .int .i64 (c 2), .int .i64 (c 3), .int .i64 (c 4), .int .i64 (c 5), .int .i64 (c 6), .int .i64 (c 7), .int .i64 (c 8), .int .i64 (c 9), .int .i64 (c 10), .int .i64 (c 11), .int .i64 (c 12), .int .i64 (c 13)]] w fun e w' => e = .returned (.tuple #[.string ⟨#[]⟩, .bool false]) ∧ Below w.heap.size w w' := by
  go_enter Tryz.func6, Tryz.ntmps6
  go_wp2_with fail
  refine (implConfigOk_any c _).mono ?_
  rintro e w1 ⟨rfl, b1⟩
  rw [hok]
  have B := Lib.hid (bel_trans (bel_alloc w _) b1)
  clear b1
  go_wp2
  exact bodyPost_ret (v := .tuple #[.string ⟨#[]⟩, .bool false]) (by simp [results, Tryz.results6, go_sem]) rfl ⟨rfl, B.out⟩

theorem implText_any (c : Nat → Int) (w : World) (ht : Num.Tab w) : Calls Tryz.prog 6 #[.agg #[.int .i64 (c 0), .int .i64 (c 1), .int .i64 (c 2), .int .i64 (c 3), .int .i64 (c 4), .int .i64 (c 5), .int .i64 (c 6), .int .i64 (c 7), .int .i64 (c 8), .int .i64 (c 9), .int .i64 (c 10), .int .i64 (c 11), .int .i64 (c 12), .int .i64 (c 13)]] w (TextEnd c w) := by
  unfold TextEnd
  cases h : okC c
  · exact (implText_no c w h).mono fun _ _ h => h
  · exact (implText_yes c w h ht).mono fun _ _ h => h


end Go.Proofs.YtahfmgjchjjlmaaGreatDoor.Fm
