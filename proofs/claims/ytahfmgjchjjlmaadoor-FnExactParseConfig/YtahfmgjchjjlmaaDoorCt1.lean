/- A configuration's text: the reference's. -/
import Derived.Test.YtahfmgjchjjlmaaDoorCfg3
import Derived.Test.YtahfmgjchjjlmaaDoorNum1
import Derived.Test.YtahfmgjchjjlmaaDoorNam1
import Derived.Test.YtahfmgjchjjlmaaDoorVal1
import Derived.Lib.ItoaLen
import Derived.StillTailTactics
import Derived.Deep.RegionHeld3
namespace Go.Proofs.YtahfmgjchjjlmaaDoor.Ct
open Go.RowKit Go.Deep Base Cf

/-- A field's line, and the first k lines. -/
def nmB (i : Nat) : ByteArray := Nam.nmL.getD i ByteArray.empty
def lnT (c : Nat → Int) (i : Nat) : List UInt8 := (nmB i).data.toList ++ 61 :: (Lib.itoa (c i) ++ [10])
def txT (c : Nat → Int) : Nat → List UInt8
  | 0 => []
  | k + 1 => txT c k ++ lnT c k
def txA (c : Nat → Int) (k : Nat) : ByteArray := ⟨(txT c k).toArray⟩

def Fit (c : Nat → Int) : Prop := ∀ i, i < 14 → 0 ≤ c i ∧ c i ≤ 1000000000

theorem fit_ok {c : Nat → Int} (h : okC c = true) : Fit c := by
  have h' := okC_iff.1 h
  intro i hi
  match i, hi with
  | 0, _ | 1, _ | 2, _ | 3, _ | 4, _ | 5, _ | 6, _ | 7, _ | 8, _ | 9, _ | 10, _ | 11, _ | 12, _ | 13, _ => omega

theorem nm_len (i : Nat) : (nmB i).size ≤ 6 := by
  rcases Nat.lt_or_ge i 14 with h | h
  · match i, h with
    | 0, _ | 1, _ | 2, _ | 3, _ | 4, _ | 5, _ | 6, _ | 7, _ | 8, _ | 9, _ | 10, _ | 11, _ | 12, _ | 13, _ => decide
  · unfold nmB
    rw [List.getD_eq_getElem?_getD, List.getElem?_eq_none (by simpa [Nam.nmL] using h)]
    decide

theorem tx_len {c : Nat → Int} (h : Fit c) : ∀ k, k ≤ 14 → (txT c k).length ≤ 40 * k
  | 0, _ => by simp [txT]
  | k + 1, hk => by
    have := tx_len h k (by omega)
    have h1 := nm_len k
    have h2 := h k (by omega)
    have h3 := Lib.itoa_length_le (c k) (by omega) (by omega)
    simp [txT, lnT] at *
    have h4 : (nmB k).data.size = (nmB k).size := rfl
    omega

theorem tx_cat (c : Nat → Int) (k : Nat) : txA c k ++ nmB k ++ (⟨#[61]⟩ : ByteArray) ++ ⟨(Lib.itoa (c k)).toArray⟩ ++ (⟨#[10]⟩ : ByteArray) = txA c (k + 1) := by
  apply ByteArray.ext
  simp [txA, txT, lnT, ByteArray.data_append]
  done

set_option maxRecDepth 100000 in
set_option maxHeartbeats 2000000 in
theorem specText_yes (c : Nat → Int) (w : World) (hok : okC c = true) :
    Calls Tryd.prog 5 #[.agg #[.int .i64 (c 0), .int .i64 (c 1), .int .i64 (c 2), .int .i64 (c 3), .int .i64 (c 4), .int .i64 (c 5), .int .i64 (c 6), .int .i64 (c 7), .int .i64 (c 8), .int .i64 (c 9), .int .i64 (c 10), .int .i64 (c 11), .int .i64 (c 12), .int .i64 (c 13)]] w fun e w' => e = .returned (.tuple #[.string (txA c 14), .bool true]) ∧ Below w.heap.size w w' := by
  have HF := Lib.hid (fit_ok hok)
  have hl : Nam.nmL.length = 14 := rfl
  have Hl := Lib.hid hl
  clear hl
  go_enter Tryd.func5, Tryd.ntmps5
  go_wp2_with fail
  have hK := heap_alloc_new w (.cells #[.int .i64 (c 0), .int .i64 (c 1), .int .i64 (c 2), .int .i64 (c 3), .int .i64 (c 4), .int .i64 (c 5), .int .i64 (c 6), .int .i64 (c 7), .int .i64 (c 8), .int .i64 (c 9), .int .i64 (c 10), .int .i64 (c 11), .int .i64 (c 12), .int .i64 (c 13)] 26)
  refine (specConfigOk_any c _).mono ?_
  rintro e w1 ⟨rfl, b1⟩
  rw [hok]
  clear hok
  have hs1 : w.heap.size < w1.heap.size := Nat.lt_of_lt_of_le (by simp) b1.size
  have K := Lib.hid ((b1.block w.heap.size (by simp)).trans hK)
  have B := Lib.hid (bel_trans (bel_alloc w _) b1)
  clear b1 hK
  go_wp2_with fail
  refine (Nam.specNames_any _).mono ?_
  rintro e w2 ⟨rfl, r2, b2, z2⟩
  have R := Lib.hid r2
  replace B := Lib.hid (bel_trans B.out b2)
  replace K := Lib.hid ((b2.block w.heap.size hs1).trans K.out)
  clear r2 b2
  have x0 : w2.cell? ⟨w.heap.size, 0, none⟩ = some (.int .i64 (c 0)) := cell_of_row _ _ 0 _ _ (0, 0) K.out
  have x1 : w2.cell? ⟨w.heap.size, 1, none⟩ = some (.int .i64 (c 1)) := cell_of_row _ _ 1 _ _ (0, 0) K.out
  have x2 : w2.cell? ⟨w.heap.size, 2, none⟩ = some (.int .i64 (c 2)) := cell_of_row _ _ 2 _ _ (0, 0) K.out
  have x3 : w2.cell? ⟨w.heap.size, 3, none⟩ = some (.int .i64 (c 3)) := cell_of_row _ _ 3 _ _ (0, 0) K.out
  have x4 : w2.cell? ⟨w.heap.size, 4, none⟩ = some (.int .i64 (c 4)) := cell_of_row _ _ 4 _ _ (0, 0) K.out
  have x5 : w2.cell? ⟨w.heap.size, 5, none⟩ = some (.int .i64 (c 5)) := cell_of_row _ _ 5 _ _ (0, 0) K.out
  have x6 : w2.cell? ⟨w.heap.size, 6, none⟩ = some (.int .i64 (c 6)) := cell_of_row _ _ 6 _ _ (0, 0) K.out
  have x7 : w2.cell? ⟨w.heap.size, 7, none⟩ = some (.int .i64 (c 7)) := cell_of_row _ _ 7 _ _ (0, 0) K.out
  have x8 : w2.cell? ⟨w.heap.size, 8, none⟩ = some (.int .i64 (c 8)) := cell_of_row _ _ 8 _ _ (0, 0) K.out
  have x9 : w2.cell? ⟨w.heap.size, 9, none⟩ = some (.int .i64 (c 9)) := cell_of_row _ _ 9 _ _ (0, 0) K.out
  have x10 : w2.cell? ⟨w.heap.size, 10, none⟩ = some (.int .i64 (c 10)) := cell_of_row _ _ 10 _ _ (0, 0) K.out
  have x11 : w2.cell? ⟨w.heap.size, 11, none⟩ = some (.int .i64 (c 11)) := cell_of_row _ _ 11 _ _ (0, 0) K.out
  have x12 : w2.cell? ⟨w.heap.size, 12, none⟩ = some (.int .i64 (c 12)) := cell_of_row _ _ 12 _ _ (0, 0) K.out
  have x13 : w2.cell? ⟨w.heap.size, 13, none⟩ = some (.int .i64 (c 13)) := cell_of_row _ _ 13 _ _ (0, 0) K.out
  go_wp2_with fail
  clear x0 x1 x2 x3 x4 x5 x6 x7 x8 x9 x10 x11 x12 x13
  refine (Cv.values_any c _).mono ?_
  rintro e w3 ⟨vb, rfl, hv, hvb, b3⟩
  replace R := Lib.hid (R.out.of_block (b3.block _ z2))
  have V := Lib.hid hv
  have hv3 := Cv.row_lt hv
  have z3 := Nat.lt_of_lt_of_le z2 b3.size
  replace B := Lib.hid (bel_trans B.out b3)
  clear hv b3
  obtain ⟨nb, hnb⟩ : ∃ nb, w1.heap.size = nb := ⟨_, rfl⟩
  rw [hnb] at R z2 z3 ⊢
  go_wp2
  go_loopw [4, 7] (fun t i wr => ∃ k : Nat, k ≤ 14 ∧ i = .int .i64 k ∧ t = .string (txA c k) ∧ Below w3.heap.size w3 wr) (fun _ i _ => 14 - (intOf i).toNat)
  case atStart => exact ⟨0, Nat.zero_le _, rfl, rfl, Below.refl _ _⟩
  case round =>
    obtain ⟨k, hk, rfl, rfl, hr⟩ := hrel
    have Hr := Lib.hid hr
    clear hr
    by_cases hlt : k < 14
    · have hk0 : (0 : Int) ≤ (k : Int) := by omega
      have hk1 : (k : Int) < 14 := by omega
      have cn := ((R.out.of_block (Hr.out.block nb z3)) k (by have := Hl.out; omega)).1
      have cv := (World.cell?_of_block (Hr.out.block vb hv3)).trans (Cv.row_at V.out k hlt)
      have hsz : (txA c k).size ≤ 560 := by have := tx_len HF.out k (by omega); simp [txA, ByteArray.size] ; omega
      have hns : (nmB k).size ≤ 6 := nm_len k
      change wr.cell? ⟨nb, k, none⟩ = some (Value.string (nmB k)) at cn
      have hf := HF.out k hlt
      have HC := Lib.hid (tx_cat c k)
      obtain ⟨nx, hnx⟩ : ∃ nx, txA c (k + 1) = nx := ⟨_, rfl⟩
      rw [hnx] at HC
      have HX := Lib.hid hnx
      clear hnx
      generalize txA c k = cur at HC hsz ⊢
      generalize nmB k = nm at HC hns cn
      go_wp2_with fail
      have HS0 : Hid (wr.drew.cell? ⟨nb, k, none⟩ = some (.string nm) ∧ wr.drew.cell? ⟨vb, k, none⟩ = some (.int .i64 (c k))) := ⟨cn, cv⟩
      have hz3 : nb < wr.heap.size := Nat.lt_of_lt_of_le z3 Hr.out.size
      have hz4 : vb < wr.heap.size := Nat.lt_of_lt_of_le hv3 Hr.out.size
      have hil := Lib.itoa_length_le (c k) (by omega) (by omega)
      have HN : Hid (∀ W, Calls Tryd.prog 14 #[.int .i64 (c k)] W fun e w' => e = .returned (.string ⟨(Lib.itoa (c k)).toArray⟩) ∧ Below W.heap.size W w') := fun W => Num.num_any (c k) W (by omega) (by omega)
      generalize hI : (⟨(Lib.itoa (c k)).toArray⟩ : ByteArray) = it at HN HC
      have hit : it.size ≤ 21 := by rw [← hI]; simp [ByteArray.size]; omega
      clear hI hil cn cv
      have hs5 : (cur ++ nm).size = cur.size + nm.size := by simp
      have hs6 : (cur ++ nm ++ (⟨#[61]⟩ : ByteArray)).size = cur.size + nm.size + 1 := by simp; rfl
      have hs7 : (cur ++ nm ++ (⟨#[61]⟩ : ByteArray) ++ it).size = cur.size + nm.size + 1 + it.size := by simp; rfl
      refine wp_region_held_drew (S := fun V => V.cell? ⟨nb, k, none⟩ = some (.string nm) ∧ V.cell? ⟨vb, k, none⟩ = some (.int .i64 (c k))) (by kernel_rfl) HS0.out (fun _ => ?_)
      refine wpAnyH_take (i := 0) (v := (.string cur)) rfl (by kernel_rfl) (by kernel_rfl) (by kernel_rfl) (fun _ _ _ h => h) (.inl ⟨rfl, fun V hS => ?y0⟩) (HS0).out ?_
      case y0 =>
        obtain ⟨s1, s2⟩ := hS
        go_simp
      go_simp
      refine wpAnyH_take (i := 1) (v := (.slice (some ⟨nb, 0, none⟩) 14 14)) rfl (by kernel_rfl) (by kernel_rfl) (by kernel_rfl) (fun _ _ _ h => h) (.inl ⟨rfl, fun V hS => ?y0⟩) (HS0).out ?_
      case y0 =>
        obtain ⟨s1, s2⟩ := hS
        go_simp
      go_simp
      refine wpAnyH_take (i := 2) (v := (.int .i64 (k : Int))) rfl (by kernel_rfl) (by kernel_rfl) (by kernel_rfl) (fun _ _ _ h => h) (.inl ⟨rfl, fun V hS => ?y0⟩) (HS0).out ?_
      case y0 =>
        obtain ⟨s1, s2⟩ := hS
        go_simp
      go_simp
      refine wpAnyH_take (i := 3) (v := (.pointer (some ⟨nb, k, none⟩))) rfl (by kernel_rfl) (by kernel_rfl) (by kernel_rfl) (fun _ _ _ h => h) (.inl ⟨rfl, fun V hS => ?y0⟩) (HS0).out ?_
      case y0 =>
        obtain ⟨s1, s2⟩ := hS
        go_simp
      go_simp
      refine wpAnyH_take (i := 4) (v := (.string nm)) rfl (by kernel_rfl) (by kernel_rfl) (by kernel_rfl) (fun _ _ _ h => h) (.inl ⟨rfl, fun V hS => ?y0⟩) (HS0).out ?_
      case y0 =>
        obtain ⟨s1, s2⟩ := hS
        go_simp
      go_simp
      refine wpAnyH_take (i := 5) (v := (.string (cur ++ nm))) rfl (by kernel_rfl) (by kernel_rfl) (by kernel_rfl) (fun _ _ _ h => h) (.inl ⟨rfl, fun V hS => ?y0⟩) (HS0).out ?_
      case y0 =>
        go_simp
        omega
      go_simp
      refine wpAnyH_take (i := 6) (v := (.string (cur ++ nm ++ (⟨#[61]⟩ : ByteArray)))) rfl (by kernel_rfl) (by kernel_rfl) (by kernel_rfl) (fun _ _ _ h => h) (.inl ⟨rfl, fun V hS => ?y0⟩) (HS0).out ?_
      case y0 =>
        go_simp
        omega
      go_simp
      refine wpAnyH_take (i := 7) (v := (.slice (some ⟨vb, 0, none⟩) 14 14)) rfl (by kernel_rfl) (by kernel_rfl) (by kernel_rfl) (fun _ _ _ h => h) (.inl ⟨rfl, fun V hS => ?y0⟩) (HS0).out ?_
      case y0 =>
        obtain ⟨s1, s2⟩ := hS
        go_simp
      go_simp
      refine wpAnyH_take (i := 8) (v := (.int .i64 (k : Int))) rfl (by kernel_rfl) (by kernel_rfl) (by kernel_rfl) (fun _ _ _ h => h) (.inl ⟨rfl, fun V hS => ?y0⟩) (HS0).out ?_
      case y0 =>
        obtain ⟨s1, s2⟩ := hS
        go_simp
      go_simp
      refine wpAnyH_take (i := 9) (v := (.pointer (some ⟨vb, k, none⟩))) rfl (by kernel_rfl) (by kernel_rfl) (by kernel_rfl) (fun _ _ _ h => h) (.inl ⟨rfl, fun V hS => ?y0⟩) (HS0).out ?_
      case y0 =>
        obtain ⟨s1, s2⟩ := hS
        go_simp
      go_simp
      refine wpAnyH_take (i := 10) (v := (.int .i64 (c k))) rfl (by kernel_rfl) (by kernel_rfl) (by kernel_rfl) (fun _ _ _ h => h) (.inl ⟨rfl, fun V hS => ?y0⟩) (HS0).out ?_
      case y0 =>
        obtain ⟨s1, s2⟩ := hS
        go_simp
      go_simp
      refine wpAnyH_ready (rs := [11]) (by kernel_rfl) (by simp) (AllReadyH.cons rfl (fun J hJ => ?_) AllReadyH.nil)
      go_simp
      refine (HN.out _).mono ?_
      rintro e w4 ⟨rfl, b4⟩
      have B4 := Lib.hid (bel_trans Hr.out (bel_of_drew b4))
      have HS1 : Hid (w4.cell? ⟨nb, k, none⟩ = some (.string nm) ∧ w4.cell? ⟨vb, k, none⟩ = some (.int .i64 (c k))) := ⟨(b4.cell (p := ⟨nb, k, none⟩) hz3).trans HS0.out.1, (b4.cell (p := ⟨vb, k, none⟩) hz4).trans HS0.out.2⟩
      clear b4 HN
      refine hJ.out _ _ HS1.out (fun _ => ?_)
      clear hJ J
      go_simp
      refine wpAnyH_take (i := 12) (v := (.string (cur ++ nm ++ (⟨#[61]⟩ : ByteArray) ++ it))) rfl (by kernel_rfl) (by kernel_rfl) (by kernel_rfl) (fun _ _ _ h => h) (.inl ⟨rfl, fun V hS => ?y0⟩) (HS1).out ?_
      case y0 =>
        go_simp
        omega
      go_simp
      refine wpAnyH_take (i := 13) (v := (.string (cur ++ nm ++ (⟨#[61]⟩ : ByteArray) ++ it ++ (⟨#[10]⟩ : ByteArray)))) rfl (by kernel_rfl) (by kernel_rfl) (by kernel_rfl) (fun _ _ _ h => h) (.inl ⟨rfl, fun V hS => ?y0⟩) (HS1).out ?_
      case y0 =>
        go_simp
        omega
      go_simp
      rw [HC.out]
      refine wpAnyH_take (i := 14) (v := (.string nx)) rfl (by kernel_rfl) (by kernel_rfl) (by kernel_rfl) (fun _ _ _ h => h) (.inl ⟨rfl, fun V hS => ?y0⟩) (HS1).out ?_
      case y0 =>
        obtain ⟨s1, s2⟩ := hS
        go_simp
      go_simp
      refine wpAnyH_done (by kernel_rfl) ?_ _
      go_wp2
      go_roundw
      case rel => exact ⟨k + 1, by omega, by go_num, by rw [HX.out], B4.out⟩
      case measure => simp [intOf]; omega
    · obtain rfl : k = 14 := by omega
      go_wp2
      exact bodyPost_ret (v := .tuple #[.string (txA c 14), .bool true]) (by simp [results, Tryd.results5, go_sem]) rfl ⟨rfl, bel_trans B.out Hr.out⟩

set_option maxRecDepth 100000 in
set_option maxHeartbeats 2000000 in
theorem specText_no (c : Nat → Int) (w : World) (hok : okC c = false) :
    Calls Tryd.prog 5 #[.agg #[.int .i64 (c 0), .int .i64 (c 1), .int .i64 (c 2), .int .i64 (c 3), .int .i64 (c 4), .int .i64 (c 5), .int .i64 (c 6), .int .i64 (c 7), .int .i64 (c 8), .int .i64 (c 9), .int .i64 (c 10), .int .i64 (c 11), .int .i64 (c 12), .int .i64 (c 13)]] w fun e w' => e = .returned (.tuple #[.string ⟨#[]⟩, .bool false]) ∧ Below w.heap.size w w' := by
  go_enter Tryd.func5, Tryd.ntmps5
  go_wp2_with fail
  refine (specConfigOk_any c _).mono ?_
  rintro e w1 ⟨rfl, b1⟩
  rw [hok]
  have B := Lib.hid (bel_trans (bel_alloc w _) b1)
  clear b1
  go_wp2
  exact bodyPost_ret (v := .tuple #[.string ⟨#[]⟩, .bool false]) (by simp [results, Tryd.results5, go_sem]) rfl ⟨rfl, B.out⟩

def TextEnd (c : Nat → Int) (w : World) (e : Ending) (w' : World) : Prop :=
  e = .returned (.tuple #[.string (if okC c then txA c 14 else ⟨#[]⟩), .bool (okC c)]) ∧ Below w.heap.size w w'

theorem specText_any (c : Nat → Int) (w : World) : Calls Tryd.prog 5 #[.agg #[.int .i64 (c 0), .int .i64 (c 1), .int .i64 (c 2), .int .i64 (c 3), .int .i64 (c 4), .int .i64 (c 5), .int .i64 (c 6), .int .i64 (c 7), .int .i64 (c 8), .int .i64 (c 9), .int .i64 (c 10), .int .i64 (c 11), .int .i64 (c 12), .int .i64 (c 13)]] w (TextEnd c w) := by
  unfold TextEnd
  cases h : okC c
  · exact (specText_no c w h).mono fun _ _ h => h
  · exact (specText_yes c w h).mono fun _ _ h => h
end Go.Proofs.YtahfmgjchjjlmaaDoor.Ct
