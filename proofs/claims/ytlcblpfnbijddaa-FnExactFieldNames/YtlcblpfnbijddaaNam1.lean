/- Rows of strings that a call has made: compared, marked, held; FieldNames; its law walked. -/
import Derived.Test.YtlcblpfnbijddaaMtx1
import Derived.StillTailTactics
import Derived.Deep.RegionHeld3
namespace Go.Proofs.Ytlcblpfnbijddaa.Nam
open Go.RowKit Go.Deep Base

def RS (w : World) (g : Nat) (ss : List ByteArray) : Prop := ∀ i, i < ss.length → w.cell? ⟨g, i, none⟩ = some (.string (ss.getD i ByteArray.empty)) ∧ ∀ j, w.frozen? ⟨g, j, none⟩ = false
theorem RS.of_block {w w' : World} {g : Nat} {ss : List ByteArray} (h : RS w g ss) (e : w'.heap[g]? = w.heap[g]?) : RS w' g ss := fun i hi =>
  ⟨(World.cell?_of_block e).trans (h i hi).1, fun j => (World.frozen?_of_block e).trans ((h i hi).2 j)⟩

set_option maxHeartbeats 400000 in
theorem eqStrs_same (g1 g2 n c1 c2 : Nat) (ss : List ByteArray) (w : World) (hn : ss.length = n) (hm : n ≤ 1048576) (h1 : RS w g1 ss) (h2 : RS w g2 ss) :
    Calls Try.prog 17 #[.slice (some ⟨g1, 0, none⟩) n c1, .slice (some ⟨g2, 0, none⟩) n c2] w fun e w' => e = .returned (.bool true) ∧ Below w.heap.size w w' := by
  have Hn := Lib.hid hn
  clear hn
  have H1 := Lib.hid h1
  have H2 := Lib.hid h2
  clear h1 h2
  go_enter Try.func17, Try.ntmps17
  go_wp2
  go_loopw [5] (fun i wr => ∃ k : Nat, k ≤ n ∧ i = .int .i64 k ∧ Below w.heap.size w wr) (fun i _ => n - (intOf i).toNat)
  case atStart => exact ⟨0, Nat.zero_le _, rfl, Below.refl _ _⟩
  case round =>
    obtain ⟨k, hk, rfl, hr⟩ := hrel
    have Hr := Lib.hid hr
    clear hr
    by_cases hlt : k < n
    · have hg1 := World.block_lt_of_cell? _ _ (H1.out k (by have := Hn.out; omega)).1
      have hg2 := World.block_lt_of_cell? _ _ (H2.out k (by have := Hn.out; omega)).1
      have c1 := ((H1.out.of_block (Hr.out.block g1 hg1)) k (by have := Hn.out; omega)).1
      have c2 := ((H2.out.of_block (Hr.out.block g2 hg2)) k (by have := Hn.out; omega)).1
      clear hg1 hg2
      generalize ss.getD k ByteArray.empty = z at c1 c2
      go_wp2_with fail
      go_region
      all_goals
        go_wp2
        go_roundw
        case rel => exact ⟨k + 1, by omega, by go_num, by repeat (first | exact Hr.out | apply Below.drew)⟩
        case measure => simp [intOf]; omega
    · go_wp2
      go_ret
      exact ⟨rfl, Hr.out⟩

/-- The first i texts of a row are marks from k on. -/
def MarkSt (w wr : World) (g n k : Nat) (ss : List ByteArray) (i : Nat) : Prop :=
  (∀ j, j < n → wr.cell? ⟨g, j, none⟩ = some (.string (if j < i then Num.mtx (k + j) else ss.getD j ByteArray.empty)) ∧ ∀ o, wr.frozen? ⟨g, o, none⟩ = false)
  ∧ w.heap.size ≤ wr.heap.size ∧ wr.os = w.os ∧ wr.tape = w.tape ∧ wr.output = w.output ∧ ∀ b, b < w.heap.size → b ≠ g → wr.heap[b]? = w.heap[b]?

theorem MarkSt.below {w a b : World} {g n k i : Nat} {ss : List ByteArray} (h : MarkSt w a g n k ss i) (hb : Below a.heap.size a b) (hg : g < w.heap.size) : MarkSt w b g n k ss i := by
  obtain ⟨h1, h2, h3, h4, h5, h6⟩ := h
  have e := hb.block g (Nat.lt_of_lt_of_le hg h2)
  refine ⟨fun j hj => ⟨(World.cell?_of_block e).trans (h1 j hj).1, fun o => (World.frozen?_of_block e).trans ((h1 j hj).2 o)⟩, Nat.le_trans h2 hb.size, hb.os.trans h3, hb.tape.trans h4, hb.output.trans h5, fun b' hb' hne => (hb.block b' (Nat.lt_of_lt_of_le hb' h2)).trans (h6 b' hb' hne)⟩

theorem MarkSt.step {w a : World} {g n k i : Nat} {ss : List ByteArray} (h : MarkSt w a g n k ss i) : MarkSt w (a.setCell ⟨g, i, none⟩ (.string (Num.mtx (k + i)))) g n k ss (i + 1) := by
  obtain ⟨h1, h2, h3, h4, h5, h6⟩ := h
  refine ⟨fun j hj => ⟨?_, fun o => by rw [World.frozen?_setCell]; exact (h1 j hj).2 o⟩, by simpa [World.setCell] using h2, h3, h4, h5, fun b' hb' hne => (heap_setCell_other a _ _ _ hne).trans (h6 b' hb' hne)⟩
  by_cases e : j = i
  · subst e
    rw [World.cell?_setCell_same' _ _ _ (by rw [(h1 j hj).1]; rfl), if_pos (by omega)]
  · rw [World.cell?_setCell_other _ _ _ _ (fun e' => by injection e' with _ e' _; exact e e'.symm), (h1 j hj).1]
    by_cases l : j < i
    · rw [if_pos l, if_pos (by omega)]
    · rw [if_neg l, if_neg (by omega)]

set_option maxHeartbeats 800000 in
theorem markStrs_any (g n cap k : Nat) (ss : List ByteArray) (w : World) (hn : ss.length = n) (hm : n ≤ 1048576) (hk : 0 < k) (hk1 : k ≤ 1099511627776) (h : RS w g ss) (hg : g < w.heap.size) :
    Calls Try.prog 18 #[.slice (some ⟨g, 0, none⟩) n cap, .int .i64 (k : Int)] w fun e w' => e = .returned (.int .i64 ((k + n : Nat) : Int)) ∧ MarkSt w w' g n k ss n := by
  have Hn := Lib.hid hn
  clear hn
  have HS : Hid (MarkSt w w g n k ss 0) := ⟨fun j hj => by simpa using h j (by have := Hn.out; omega), Nat.le_refl _, rfl, rfl, rfl, fun _ _ _ => rfl⟩
  clear h
  go_enter Try.func18, Try.ntmps18
  go_wp2
  go_loopw [1, 5] (fun t i wr => ∃ j : Nat, j ≤ n ∧ i = .int .i64 j ∧ t = .int .i64 ((k + j : Nat) : Int) ∧ MarkSt w wr g n k ss j) (fun _ i _ => n - (intOf i).toNat)
  case atStart => exact ⟨0, Nat.zero_le _, rfl, by simp, HS.out⟩
  case round =>
    obtain ⟨j, hj, rfl, rfl, hr⟩ := hrel
    clear HS
    have Hr := Lib.hid hr
    clear hr
    by_cases hlt : j < n
    · have hj0 : (0 : Int) ≤ (j : Int) := by omega
      have hj1 : (j : Int) < (n : Int) := by omega
      go_wp2_with fail
      refine (Num.markText_any (k + j) _ (by omega) (by omega)).mono ?_
      rintro e w1 ⟨rfl, b1⟩
      have Hr1 := Lib.hid (Hr.out.below b1 hg)
      clear b1
      obtain ⟨c0, cf⟩ := Hr1.out.1 j hlt
      have hg1 : g < w1.heap.size := Nat.lt_of_lt_of_le hg Hr1.out.2.1
      have Hr2 := Lib.hid Hr1.out.step
      generalize Num.mtx (k + j) = tx at Hr2
      obtain ⟨z, hz⟩ : ∃ z, (if j < j then Num.mtx (k + j) else ss.getD j ByteArray.empty) = z := ⟨_, rfl⟩
      rw [hz] at c0
      clear hz
      obtain ⟨kj, hkj⟩ : ∃ kj : Nat, k + j = kj := ⟨_, rfl⟩
      rw [hkj]
      have hkjb : kj ≤ 1099511627776 + 1048576 := by omega
      have Hkj := Lib.hid hkj
      clear hkj
      go_wp2
      go_roundw
      case rel => exact ⟨j + 1, by omega, by go_num, by have := Hkj.out; congr 1; omega, Hr2.out⟩
      case measure => simp [intOf]; omega
    · obtain rfl : j = n := by omega
      go_wp2
      go_ret
      exact ⟨rfl, Hr.out⟩

set_option maxHeartbeats 800000 in
theorem heldStrs_any (g n cap k : Nat) (w : World) (hm : n ≤ 1048576) (hk : 0 < k) (hk1 : k ≤ 1099511627776) (h : ∀ j, j < n → w.cell? ⟨g, j, none⟩ = some (.string (Num.mtx (k + j)))) :
    Calls Try.prog 19 #[.slice (some ⟨g, 0, none⟩) n cap, .int .i64 (k : Int)] w fun e w' => e = .returned (.int .i64 ((k + n : Nat) : Int)) ∧ Below w.heap.size w w' := by
  have HS := Lib.hid h
  clear h
  go_enter Try.func19, Try.ntmps19
  go_wp2
  go_loopw [1, 5] (fun t i wr => ∃ j : Nat, j ≤ n ∧ i = .int .i64 j ∧ t = .int .i64 ((k + j : Nat) : Int) ∧ Below w.heap.size w wr) (fun _ i _ => n - (intOf i).toNat)
  case atStart => exact ⟨0, Nat.zero_le _, rfl, by simp, Below.refl _ _⟩
  case round =>
    obtain ⟨j, hj, rfl, rfl, hr⟩ := hrel
    have Hr := Lib.hid hr
    clear hr
    by_cases hlt : j < n
    · have hj0 : (0 : Int) ≤ (j : Int) := by omega
      have hj1 : (j : Int) < (n : Int) := by omega
      have c0 := (Hr.out.cell (p := ⟨g, j, none⟩) (World.block_lt_of_cell? _ _ (HS.out j hlt))).trans (HS.out j hlt)
      have HM : Hid (∀ W, Calls Try.prog 24 #[.int .i64 ((k + j : Nat) : Int)] W fun e w' => e = .returned (.string (Num.mtx (k + j))) ∧ Below W.heap.size W w') := fun W => Num.markText_any (k + j) W (by omega) (by omega)
      generalize Num.mtx (k + j) = txt at c0 HM
      obtain ⟨kj, hkj⟩ : ∃ kj : Nat, k + j = kj := ⟨_, rfl⟩
      rw [hkj] at HM ⊢
      have hkjb : kj ≤ 1099511627776 + 1048576 := by omega
      have Hkj := Lib.hid hkj
      clear hkj
      go_wp2_with fail
      have HS0 : Hid (wr.drew.cell? ⟨g, j, none⟩ = some (.string txt)) := c0
      refine wp_region_held_drew (S := fun V => V.cell? ⟨g, j, none⟩ = some (.string txt)) (by kernel_rfl) HS0.out (fun _ => ?_)
      refine wpAnyH_take (i := 0) (v := (.slice (some ⟨g, 0, none⟩) n cap)) rfl (by kernel_rfl) (by kernel_rfl) (by kernel_rfl) (fun _ _ _ h => h) (.inl ⟨rfl, fun V hS => ?y0⟩) (HS0).out ?_
      case y0 =>
        go_simp
      go_simp
      refine wpAnyH_take (i := 1) (v := (.int .i64 (j : Int))) rfl (by kernel_rfl) (by kernel_rfl) (by kernel_rfl) (fun _ _ _ h => h) (.inl ⟨rfl, fun V hS => ?y0⟩) (HS0).out ?_
      case y0 =>
        go_simp
      go_simp
      refine wpAnyH_take (i := 2) (v := (.pointer (some ⟨g, j, none⟩))) rfl (by kernel_rfl) (by kernel_rfl) (by kernel_rfl) (fun _ _ _ h => h) (.inl ⟨rfl, fun V hS => ?y0⟩) (HS0).out ?_
      case y0 =>
        go_simp
      go_simp
      refine wpAnyH_take (i := 3) (v := (.string txt)) rfl (by kernel_rfl) (by kernel_rfl) (by kernel_rfl) (fun _ _ _ h => h) (.inl ⟨rfl, fun V hS => ?y0⟩) (HS0).out ?_
      case y0 =>
        go_simp
      go_simp
      refine wpAnyH_take (i := 4) (v := (.int .i64 (kj : Int))) rfl (by kernel_rfl) (by kernel_rfl) (by kernel_rfl) (fun _ _ _ h => h) (.inl ⟨rfl, fun V hS => ?y0⟩) (HS0).out ?_
      case y0 =>
        go_simp
      go_simp
      refine wpAnyH_ready (rs := [5]) (by kernel_rfl) (by simp) (AllReadyH.cons rfl (fun J hJ => ?_) AllReadyH.nil)
      go_simp
      refine (HM.out _).mono ?_
      rintro e w1 ⟨rfl, b1⟩
      have B1 := Lib.hid (bel_trans Hr.out (bel_of_drew b1))
      have HS1 : Hid (w1.cell? ⟨g, j, none⟩ = some (.string txt)) := (b1.cell (p := ⟨g, j, none⟩) (World.block_lt_of_cell? _ _ HS0.out)).trans HS0.out
      clear b1
      refine hJ.out _ _ HS1.out (fun _ => ?_)
      clear hJ J
      go_simp
      refine wpAnyH_take (i := 6) (v := (.bool false)) rfl (by kernel_rfl) (by kernel_rfl) (by kernel_rfl) (fun _ _ _ h => h) (.inl ⟨rfl, fun V hS => ?y0⟩) (HS1).out ?_
      case y0 =>
        go_simp
      go_simp
      refine wpAnyH_done (by kernel_rfl) ?_ _
      go_wp2
      go_roundw
      case rel => exact ⟨j + 1, by omega, by go_num, by have := Hkj.out; congr 1; omega, B1.out⟩
      case measure => simp [intOf]; omega
    · obtain rfl : j = n := by omega
      go_wp2
      go_ret
      exact ⟨rfl, Hr.out⟩

def nmL : List ByteArray := [⟨#[109, 105, 110]⟩, ⟨#[109, 97, 120]⟩, ⟨#[119, 97, 105, 116]⟩, ⟨#[108, 105, 102, 101]⟩, ⟨#[105, 100, 108, 101]⟩, ⟨#[107, 101, 101, 112]⟩, ⟨#[108, 101, 97, 107]⟩, ⟨#[98, 97, 115, 101]⟩, ⟨#[99, 97, 112]⟩, ⟨#[106, 105, 116, 116, 101, 114]⟩, ⟨#[119, 105, 110, 100, 111, 119]⟩, ⟨#[116, 114, 105, 112, 115]⟩, ⟨#[99, 111, 111, 108]⟩, ⟨#[100, 114, 97, 105, 110]⟩]
theorem nm_new (w : World) (t : TypeId) : RS (w.alloc (.cells #[.string ⟨#[109, 105, 110]⟩, .string ⟨#[109, 97, 120]⟩, .string ⟨#[119, 97, 105, 116]⟩, .string ⟨#[108, 105, 102, 101]⟩, .string ⟨#[105, 100, 108, 101]⟩, .string ⟨#[107, 101, 101, 112]⟩, .string ⟨#[108, 101, 97, 107]⟩, .string ⟨#[98, 97, 115, 101]⟩, .string ⟨#[99, 97, 112]⟩, .string ⟨#[106, 105, 116, 116, 101, 114]⟩, .string ⟨#[119, 105, 110, 100, 111, 119]⟩, .string ⟨#[116, 114, 105, 112, 115]⟩, .string ⟨#[99, 111, 111, 108]⟩, .string ⟨#[100, 114, 97, 105, 110]⟩] t)) w.heap.size nmL := by
  intro i hi
  have e := heap_alloc_new w (.cells (nmL.map Value.string).toArray t)
  refine ⟨?_, fun j => by have e' : (w.alloc (.cells (nmL.map Value.string).toArray t)).heap[w.heap.size]? = some (.cells (nmL.map Value.string).toArray t (0, 0)) := e; exact frozen_of_row _ _ j _ t e'⟩
  show (w.alloc (.cells (nmL.map Value.string).toArray t)).cell? ⟨w.heap.size, i, none⟩ = _
  rw [cell_of_row _ _ i _ t (0, 0) e]
  simp [hi]

set_option maxHeartbeats 800000 in
theorem specNames_any (w : World) : Calls Try.prog 15 #[] w fun e w' => e = .returned (.slice (some ⟨w.heap.size, 0, none⟩) 14 14) ∧ RS w' w.heap.size nmL ∧ Below w.heap.size w w' ∧ w.heap.size < w'.heap.size := by
  have HN := Lib.hid (fun t => nm_new w t)
  go_enter Try.func15, Try.ntmps15
  go_wp2
  go_ret
  exact ⟨rfl, HN.out _, bel_alloc _ _, by simp⟩

set_option maxHeartbeats 800000 in
theorem implNames_any (w : World) : Calls Try.prog 16 #[] w fun e w' => e = .returned (.slice (some ⟨w.heap.size, 0, none⟩) 14 14) ∧ RS w' w.heap.size nmL ∧ Below w.heap.size w w' ∧ w.heap.size < w'.heap.size := by
  have HN := Lib.hid (fun t => nm_new w t)
  go_enter Try.func16, Try.ntmps16
  go_wp2
  go_ret
  exact ⟨rfl, HN.out _, bel_alloc _ _, by simp⟩

set_option maxRecDepth 100000 in
set_option maxHeartbeats 2000000 in
theorem lawFieldNames (w : World) : Calls Try.prog 6 #[] w fun e w' => e = .returned (.bool true) ∧ Below w.heap.size w w' := by
  have hl : nmL.length = 14 := rfl
  have Hl := Lib.hid hl
  clear hl
  go_enter Try.func6, Try.ntmps6
  go_wp2_with fail
  refine (specNames_any _).mono ?_
  rintro e w1 ⟨rfl, r1, b1, z1⟩
  have R1 := Lib.hid r1
  have B := Lib.hid b1
  clear r1 b1
  go_wp2_with fail
  refine (implNames_any _).mono ?_
  rintro e w2 ⟨rfl, r2, b2, z2⟩
  replace R1 := Lib.hid (R1.out.of_block (b2.block _ z1))
  have R2 := Lib.hid r2
  replace B := Lib.hid (bel_trans B.out b2)
  clear r2 b2
  go_wp2_with fail
  refine (eqStrs_same _ _ 14 _ _ nmL _ Hl.out (by omega) R2.out R1.out).mono ?_
  rintro e w3 ⟨rfl, b3⟩
  have s3 := b3.size
  replace R1 := Lib.hid (R1.out.of_block (b3.block _ (by omega)))
  replace R2 := Lib.hid (R2.out.of_block (b3.block _ (by omega)))
  replace B := Lib.hid (bel_trans B.out b3)
  clear b3
  go_wp2_with fail
  refine (markStrs_any w1.heap.size 14 _ 1 nmL _ Hl.out (by omega) (by omega) (by omega) R2.out (by omega)).mono ?_
  rintro e w4 ⟨rfl, m4⟩
  have s4 := m4.2.1
  replace R1 := Lib.hid (R1.out.of_block (m4.2.2.2.2.2 _ (by omega) (by omega)))
  replace B : Hid (Below w.heap.size w w4) := B.out.trans ⟨m4.2.2.1, m4.2.2.2.1, m4.2.2.2.2.1, m4.2.1, fun k hk => m4.2.2.2.2.2 k (by omega) (by omega)⟩
  have M4 : Hid (∀ j, j < 14 → w4.cell? ⟨w1.heap.size, j, none⟩ = some (.string (Num.mtx (1 + j)))) := fun j hj => by have := (m4.1 j hj).1; rw [if_pos hj] at this; exact this
  clear m4
  go_wp2_with fail
  refine (heldStrs_any w1.heap.size 14 _ 1 w4 (by omega) (by omega) (by omega) M4.out).mono ?_
  rintro e w5 ⟨rfl, b5⟩
  have s5 := b5.size
  replace R1 := Lib.hid (R1.out.of_block (b5.block _ (by omega)))
  replace M4 : Hid (∀ j, j < 14 → w5.cell? ⟨w1.heap.size, j, none⟩ = some (.string (Num.mtx (1 + j)))) := fun j hj => (b5.cell (p := ⟨w1.heap.size, j, none⟩) (show w1.heap.size < w4.heap.size by omega)).trans (M4.out j hj)
  replace B := Lib.hid (bel_trans B.out b5)
  clear b5
  go_wp2_with fail
  refine (implNames_any _).mono ?_
  rintro e w6 ⟨rfl, r6, b6, z6⟩
  replace R1 := Lib.hid (R1.out.of_block (b6.block _ (by omega)))
  have R6 := Lib.hid r6
  replace M4 : Hid (∀ j, j < 14 → w6.cell? ⟨w1.heap.size, j, none⟩ = some (.string (Num.mtx (1 + j)))) := fun j hj => (b6.cell (p := ⟨w1.heap.size, j, none⟩) (show w1.heap.size < w5.heap.size by omega)).trans (M4.out j hj)
  replace B := Lib.hid (bel_trans B.out b6)
  clear r6 b6
  go_wp2_with fail
  refine (eqStrs_same _ _ 14 _ _ nmL _ Hl.out (by omega) R6.out R1.out).mono ?_
  rintro e w7 ⟨rfl, b7⟩
  replace M4 : Hid (∀ j, j < 14 → w7.cell? ⟨w1.heap.size, j, none⟩ = some (.string (Num.mtx (1 + j)))) := fun j hj => (b7.cell (p := ⟨w1.heap.size, j, none⟩) (show w1.heap.size < w6.heap.size by omega)).trans (M4.out j hj)
  replace B := Lib.hid (bel_trans B.out b7)
  clear b7
  go_wp2_with fail
  refine (heldStrs_any w1.heap.size 14 _ 1 w7 (by omega) (by omega) (by omega) M4.out).mono ?_
  rintro e w8 ⟨rfl, b8⟩
  replace B := Lib.hid (bel_trans B.out b8)
  clear b8
  go_wp2
  go_ret
  exact ⟨rfl, B.out⟩
end Go.Proofs.Ytlcblpfnbijddaa.Nam
