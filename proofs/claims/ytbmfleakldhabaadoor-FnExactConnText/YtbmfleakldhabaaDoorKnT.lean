/- The text of a connection: the reference's ConnText. -/
import Derived.Test.YtbmfleakldhabaaDoorKn5
import Derived.Test.YtbmfleakldhabaaDoorNum1
namespace Go.Proofs.YtbmfleakldhabaaDoor.Kn
open Go.RowKit Go.Deep Base Tick

def nmL : List (List UInt8) := [[100, 105, 97, 108, 105, 110, 103], [105, 100, 108, 101], [112, 114, 111, 98, 105, 110, 103], [104, 101, 108, 100], [99, 108, 111, 115, 101, 100]]
def nmB (i : Nat) : ByteArray := ⟨(nmL.getD i []).toArray⟩
def itB (x : Int) : ByteArray := ⟨(Lib.itoa x).toArray⟩
def spB : ByteArray := ⟨#[32]⟩
/-- The text of a valid connection. -/
def txC (k : Nat → Int) : ByteArray := itB (k 0) ++ spB ++ nmB (k 1).toNat ++ spB ++ itB (k 2) ++ spB ++ itB (k 3) ++ spB ++ itB (k 4)
def textC (k : Nat → Int) (t : Bool) : ByteArray := if okN k t = true then txC k else ⟨#[]⟩

theorem nm_len {i : Nat} (h : i < 5) : (nmB i).size ≤ 7 := by
  have hc : i = 0 ∨ i = 1 ∨ i = 2 ∨ i = 3 ∨ i = 4 := by omega
  rcases hc with rfl | rfl | rfl | rfl | rfl <;> decide

/-- The numbers of a valid connection are small, its state is one of five. -/
theorem ok_small {k : Nat → Int} {t : Bool} (h : okN k t = true) : (0 ≤ k 0 ∧ k 0 ≤ 1000000000) ∧ (∃ i : Nat, k 1 = i ∧ i < 5) ∧ (0 ≤ k 2 ∧ k 2 ≤ 1000000000) ∧ (0 ≤ k 3 ∧ k 3 ≤ 1000000000) ∧ (0 ≤ k 4 ∧ k 4 ≤ 1000000000) := by
  rw [okN_parts] at h
  unfold timesB holdB at h
  simp only [Bool.and_eq_true, inB_iff, isT_iff] at h
  obtain ⟨⟨⟨h0, h1⟩, _, h2, _⟩, h4⟩ := h
  refine ⟨by omega, ⟨(k 1).toNat, by omega, by omega⟩, h2.1, h2.2, ?_⟩
  split at h4
  · have := inB_iff.1 h4
    omega
  · simp only [Bool.and_eq_true, beq_iff_eq] at h4
    omega

theorem it_len {x : Int} (h : 0 ≤ x ∧ x ≤ 1000000000) : (itB x).size ≤ 21 := by
  have := Lib.itoa_length_le x (by omega) (by omega)
  simp [itB, ByteArray.size]
  omega

/-- What the region of the text reads: the five numbers, the name of the state. -/
def TX (b nb i : Nat) (a0 a2 a3 a4 : Int) (nm : ByteArray) (V : World) : Prop :=
  V.cell? ⟨b, 0, none⟩ = some (.int .i64 a0) ∧ V.cell? ⟨b, 1, none⟩ = some (.int .i64 (i : Int)) ∧ V.cell? ⟨b, 2, none⟩ = some (.int .i64 a2) ∧ V.cell? ⟨b, 3, none⟩ = some (.int .i64 a3) ∧ V.cell? ⟨b, 4, none⟩ = some (.int .i64 a4) ∧ V.cell? ⟨nb, i, none⟩ = some (.string nm)
theorem TX.below {b nb i : Nat} {a0 a2 a3 a4 : Int} {nm : ByteArray} {V W : World} (h : TX b nb i a0 a2 a3 a4 nm V) (hb : Below V.heap.size V W) : TX b nb i a0 a2 a3 a4 nm W :=
  ⟨nkeep h.1 hb, nkeep h.2.1 hb, nkeep h.2.2.1 hb, nkeep h.2.2.2.1 hb, nkeep h.2.2.2.2.1 hb, nkeep h.2.2.2.2.2 hb⟩

set_option maxRecDepth 100000 in
set_option maxHeartbeats 4000000 in
theorem specText_any (k : Nat → Int) (t : Bool) (w : World) :
    Calls Tryd.prog 27 #[.agg #[.int .i64 (k 0), .int .i64 (k 1), .int .i64 (k 2), .int .i64 (k 3), .int .i64 (k 4), .bool t]] w fun e w' => e = .returned (.string (textC k t)) ∧ Below w.heap.size w w' := by
  have HO : Hid (textC k t = if okN k t = true then txC k else ⟨#[]⟩) := rfl
  have HK := Lib.hid (KC.new k t w 28)
  have B := Lib.hid (bel_alloc w (.cells #[.int .i64 (k 0), .int .i64 (k 1), .int .i64 (k 2), .int .i64 (k 3), .int .i64 (k 4), .bool t] 28))
  go_enter Tryd.func27, Tryd.ntmps27
  go_wp2_with fail
  refine (specConnOk_any k t _).mono ?_
  rintro e w1 ⟨rfl, b1⟩
  replace HK := Lib.hid (HK.out.below b1)
  replace B := Lib.hid (bel_trans B.out b1)
  clear b1
  cases h0 : okN k t
  · have Hr : Hid (textC k t = ⟨#[]⟩) := by show _ = _; rw [HO.out, h0]; rfl
    clear h0
    go_wp2
    go_ret
    exact ⟨by rw [Hr.out]; rfl, B.out⟩
  obtain ⟨b0, ⟨i, hi, hi5⟩, b2, b3, b4⟩ := ok_small h0
  have Hr : Hid (textC k t = itB (k 0) ++ spB ++ nmB i ++ spB ++ itB (k 2) ++ spB ++ itB (k 3) ++ spB ++ itB (k 4)) := by show _ = _; rw [HO.out, h0, if_pos rfl]; unfold txC; rw [hi]; rfl
  have HNm : Hid ((w1.alloc (.cells #[.string (nmB 0), .string (nmB 1), .string (nmB 2), .string (nmB 3), .string (nmB 4)] 9)).cell? ⟨w1.heap.size, i, none⟩ = some (.string (nmB i))) := by
    have r := heap_alloc_new w1 (.cells #[.string (nmB 0), .string (nmB 1), .string (nmB 2), .string (nmB 3), .string (nmB 4)] 9)
    have hc : i = 0 ∨ i = 1 ∨ i = 2 ∨ i = 3 ∨ i = 4 := by omega
    rcases hc with rfl | rfl | rfl | rfl | rfl
    · exact cell_of_row _ _ 0 _ _ (0, 0) r
    · exact cell_of_row _ _ 1 _ _ (0, 0) r
    · exact cell_of_row _ _ 2 _ _ (0, 0) r
    · exact cell_of_row _ _ 3 _ _ (0, 0) r
    · exact cell_of_row _ _ 4 _ _ (0, 0) r
  have hz : w.heap.size < w1.heap.size := HK.out.lt
  have hnl := nm_len hi5
  have hl0 := it_len b0
  have hl2 := it_len b2
  have hl3 := it_len b3
  have hl4 := it_len b4
  have HN0 : Hid (∀ W, Calls Tryd.prog 47 #[.int .i64 (k 0)] W fun e w' => e = .returned (.string (itB (k 0))) ∧ Below W.heap.size W w') := fun W => Num.num_any (k 0) W (by omega) (by omega)
  have HN2 : Hid (∀ W, Calls Tryd.prog 47 #[.int .i64 (k 2)] W fun e w' => e = .returned (.string (itB (k 2))) ∧ Below W.heap.size W w') := fun W => Num.num_any (k 2) W (by omega) (by omega)
  have HN3 : Hid (∀ W, Calls Tryd.prog 47 #[.int .i64 (k 3)] W fun e w' => e = .returned (.string (itB (k 3))) ∧ Below W.heap.size W w') := fun W => Num.num_any (k 3) W (by omega) (by omega)
  have HN4 : Hid (∀ W, Calls Tryd.prog 47 #[.int .i64 (k 4)] W fun e w' => e = .returned (.string (itB (k 4))) ∧ Below W.heap.size W w') := fun W => Num.num_any (k 4) W (by omega) (by omega)
  have HTX : Hid (TX w.heap.size w1.heap.size i (k 0) (k 2) (k 3) (k 4) (nmB i) (w1.alloc (.cells #[.string (nmB 0), .string (nmB 1), .string (nmB 2), .string (nmB 3), .string (nmB 4)] 9))) := by
    obtain ⟨c0, c1, c2, c3, c4, _⟩ := HK.out.below (bel_alloc w1 (.cells #[.string (nmB 0), .string (nmB 1), .string (nmB 2), .string (nmB 3), .string (nmB 4)] 9))
    exact ⟨c0, by rw [c1, hi], c2, c3, c4, HNm.out⟩
  have HH : Hid (Below w.heap.size w (w1.alloc (.cells #[.string (nmB 0), .string (nmB 1), .string (nmB 2), .string (nmB 3), .string (nmB 4)] 9))) := Lib.hid (bel_trans B.out (bel_alloc _ _))
  have hi0 : (0 : Int) ≤ (i : Int) := by omega
  have hi6 : (i : Int) < 5 := by omega
  clear h0 hi b0 b2 b3 b4 HK B HNm hi5
  go_wp2_with fail
  change Code.wp _ _ _ _ (w1.alloc (.cells #[.string (nmB 0), .string (nmB 1), .string (nmB 2), .string (nmB 3), .string (nmB 4)] 9))
  obtain ⟨w2, hw2⟩ : ∃ W', w1.alloc (.cells #[.string (nmB 0), .string (nmB 1), .string (nmB 2), .string (nmB 3), .string (nmB 4)] 9) = W' := ⟨_, rfl⟩
  obtain ⟨nb, hnb⟩ : ∃ nb, w1.heap.size = nb := ⟨_, rfl⟩
  rw [hw2] at HTX HH ⊢
  rw [hnb] at HTX ⊢
  clear hw2 hnb hz
  generalize itB (k 0) = i0 at HN0 hl0 Hr
  generalize itB (k 2) = i2 at HN2 hl2 Hr
  generalize itB (k 3) = i3 at HN3 hl3 Hr
  generalize itB (k 4) = i4 at HN4 hl4 Hr
  generalize nmB i = nm at HTX hnl Hr
  have hsp : spB.size = 1 := rfl
  have HSp : Hid (spB = (⟨#[32]⟩ : ByteArray)) := rfl
  have s1 : (i0 ++ (⟨#[32]⟩ : ByteArray)).size = i0.size + 1 := by simp; rfl
  have s2 : (i0 ++ (⟨#[32]⟩ : ByteArray) ++ nm).size = i0.size + 1 + nm.size := by simp; rfl
  have s3 : (i0 ++ (⟨#[32]⟩ : ByteArray) ++ nm ++ (⟨#[32]⟩ : ByteArray)).size = i0.size + 1 + nm.size + 1 := by simp; rfl
  have s4 : (i0 ++ (⟨#[32]⟩ : ByteArray) ++ nm ++ (⟨#[32]⟩ : ByteArray) ++ i2).size = i0.size + 1 + nm.size + 1 + i2.size := by simp; rfl
  have s5 : (i0 ++ (⟨#[32]⟩ : ByteArray) ++ nm ++ (⟨#[32]⟩ : ByteArray) ++ i2 ++ (⟨#[32]⟩ : ByteArray)).size = i0.size + 1 + nm.size + 1 + i2.size + 1 := by simp; rfl
  have s6 : (i0 ++ (⟨#[32]⟩ : ByteArray) ++ nm ++ (⟨#[32]⟩ : ByteArray) ++ i2 ++ (⟨#[32]⟩ : ByteArray) ++ i3).size = i0.size + 1 + nm.size + 1 + i2.size + 1 + i3.size := by simp; rfl
  have s7 : (i0 ++ (⟨#[32]⟩ : ByteArray) ++ nm ++ (⟨#[32]⟩ : ByteArray) ++ i2 ++ (⟨#[32]⟩ : ByteArray) ++ i3 ++ (⟨#[32]⟩ : ByteArray)).size = i0.size + 1 + nm.size + 1 + i2.size + 1 + i3.size + 1 := by simp; rfl
  have HS : Hid (TX w.heap.size nb i (k 0) (k 2) (k 3) (k 4) nm w2.drew) := HTX.out.below (Below.refl _ _).drew
  replace HH := Lib.hid HH.out.drew
  refine wp_region_held_drew (S := TX w.heap.size nb i (k 0) (k 2) (k 3) (k 4) nm) (by kernel_rfl) HS.out (fun _ => ?_)
  refine wpAnyH_take (i := 0) (v := (.pointer (some ⟨w.heap.size, 0, none⟩))) rfl (by kernel_rfl) (by kernel_rfl) (by kernel_rfl) (fun _ _ _ h => h) (.inl ⟨rfl, fun V hS => ?y0⟩) HS.out ?_
  case y0 =>
    obtain ⟨y0, y1, y2, y3, y4, y5⟩ := hS
    go_simp
  go_simp
  refine wpAnyH_take (i := 1) (v := (.int .i64 (k 0))) rfl (by kernel_rfl) (by kernel_rfl) (by kernel_rfl) (fun _ _ _ h => h) (.inl ⟨rfl, fun V hS => ?y0⟩) HS.out ?_
  case y0 =>
    obtain ⟨y0, y1, y2, y3, y4, y5⟩ := hS
    go_simp
  go_simp
  refine wpAnyH_take (i := 4) (v := (.slice (some ⟨nb, 0, none⟩) 5 5)) rfl (by kernel_rfl) (by kernel_rfl) (by kernel_rfl) (fun _ _ _ h => h) (.inl ⟨rfl, fun V hS => ?y0⟩) HS.out ?_
  case y0 =>
    obtain ⟨y0, y1, y2, y3, y4, y5⟩ := hS
    go_simp
  go_simp
  refine wpAnyH_take (i := 5) (v := (.pointer (some ⟨w.heap.size, 1, none⟩))) rfl (by kernel_rfl) (by kernel_rfl) (by kernel_rfl) (fun _ _ _ h => h) (.inl ⟨rfl, fun V hS => ?y0⟩) HS.out ?_
  case y0 =>
    obtain ⟨y0, y1, y2, y3, y4, y5⟩ := hS
    go_simp
  go_simp
  refine wpAnyH_take (i := 6) (v := (.int .i64 (i : Int))) rfl (by kernel_rfl) (by kernel_rfl) (by kernel_rfl) (fun _ _ _ h => h) (.inl ⟨rfl, fun V hS => ?y0⟩) HS.out ?_
  case y0 =>
    obtain ⟨y0, y1, y2, y3, y4, y5⟩ := hS
    go_simp
  go_simp
  refine wpAnyH_take (i := 7) (v := (.pointer (some ⟨nb, i, none⟩))) rfl (by kernel_rfl) (by kernel_rfl) (by kernel_rfl) (fun _ _ _ h => h) (.inl ⟨rfl, fun V hS => ?y0⟩) HS.out ?_
  case y0 =>
    obtain ⟨y0, y1, y2, y3, y4, y5⟩ := hS
    go_simp
  go_simp
  refine wpAnyH_take (i := 8) (v := (.string nm)) rfl (by kernel_rfl) (by kernel_rfl) (by kernel_rfl) (fun _ _ _ h => h) (.inl ⟨rfl, fun V hS => ?y0⟩) HS.out ?_
  case y0 =>
    obtain ⟨y0, y1, y2, y3, y4, y5⟩ := hS
    go_simp
  go_simp
  refine wpAnyH_take (i := 11) (v := (.pointer (some ⟨w.heap.size, 2, none⟩))) rfl (by kernel_rfl) (by kernel_rfl) (by kernel_rfl) (fun _ _ _ h => h) (.inl ⟨rfl, fun V hS => ?y0⟩) HS.out ?_
  case y0 =>
    obtain ⟨y0, y1, y2, y3, y4, y5⟩ := hS
    go_simp
  go_simp
  refine wpAnyH_take (i := 12) (v := (.int .i64 (k 2))) rfl (by kernel_rfl) (by kernel_rfl) (by kernel_rfl) (fun _ _ _ h => h) (.inl ⟨rfl, fun V hS => ?y0⟩) HS.out ?_
  case y0 =>
    obtain ⟨y0, y1, y2, y3, y4, y5⟩ := hS
    go_simp
  go_simp
  refine wpAnyH_take (i := 16) (v := (.pointer (some ⟨w.heap.size, 3, none⟩))) rfl (by kernel_rfl) (by kernel_rfl) (by kernel_rfl) (fun _ _ _ h => h) (.inl ⟨rfl, fun V hS => ?y0⟩) HS.out ?_
  case y0 =>
    obtain ⟨y0, y1, y2, y3, y4, y5⟩ := hS
    go_simp
  go_simp
  refine wpAnyH_take (i := 17) (v := (.int .i64 (k 3))) rfl (by kernel_rfl) (by kernel_rfl) (by kernel_rfl) (fun _ _ _ h => h) (.inl ⟨rfl, fun V hS => ?y0⟩) HS.out ?_
  case y0 =>
    obtain ⟨y0, y1, y2, y3, y4, y5⟩ := hS
    go_simp
  go_simp
  refine wpAnyH_take (i := 21) (v := (.pointer (some ⟨w.heap.size, 4, none⟩))) rfl (by kernel_rfl) (by kernel_rfl) (by kernel_rfl) (fun _ _ _ h => h) (.inl ⟨rfl, fun V hS => ?y0⟩) HS.out ?_
  case y0 =>
    obtain ⟨y0, y1, y2, y3, y4, y5⟩ := hS
    go_simp
  go_simp
  refine wpAnyH_take (i := 22) (v := (.int .i64 (k 4))) rfl (by kernel_rfl) (by kernel_rfl) (by kernel_rfl) (fun _ _ _ h => h) (.inl ⟨rfl, fun V hS => ?y0⟩) HS.out ?_
  case y0 =>
    obtain ⟨y0, y1, y2, y3, y4, y5⟩ := hS
    go_simp
  go_simp
  refine wpAnyH_ready (rs := ([2])) (by kernel_rfl) (by simp) (AllReadyH.cons rfl (fun J hJ => ?_) AllReadyH.nil)
  go_simp
  refine ((HN0.out _)).mono ?_
  rintro r w8 ⟨rfl, b8⟩
  replace HH := Lib.hid (bel_trans HH.out b8)
  replace HS := Lib.hid (HS.out.below b8)
  clear b8
  refine hJ.out _ _ HS.out (fun _ => ?_)
  clear hJ J
  go_simp
  refine wpAnyH_take (i := 3) (v := (.string (i0 ++ (⟨#[32]⟩ : ByteArray)))) rfl (by kernel_rfl) (by kernel_rfl) (by kernel_rfl) (fun _ _ _ h => h) (.inl ⟨rfl, fun V hS => ?y0⟩) HS.out ?_
  case y0 =>
    clear hS
    go_simp
    omega
  go_simp
  refine wpAnyH_take (i := 9) (v := (.string (i0 ++ (⟨#[32]⟩ : ByteArray) ++ nm))) rfl (by kernel_rfl) (by kernel_rfl) (by kernel_rfl) (fun _ _ _ h => h) (.inl ⟨rfl, fun V hS => ?y0⟩) HS.out ?_
  case y0 =>
    clear hS
    go_simp
    omega
  go_simp
  refine wpAnyH_take (i := 10) (v := (.string (i0 ++ (⟨#[32]⟩ : ByteArray) ++ nm ++ (⟨#[32]⟩ : ByteArray)))) rfl (by kernel_rfl) (by kernel_rfl) (by kernel_rfl) (fun _ _ _ h => h) (.inl ⟨rfl, fun V hS => ?y0⟩) HS.out ?_
  case y0 =>
    clear hS
    go_simp
    omega
  go_simp
  refine wpAnyH_ready (rs := ([13])) (by kernel_rfl) (by simp) (AllReadyH.cons rfl (fun J hJ => ?_) AllReadyH.nil)
  go_simp
  refine ((HN2.out _)).mono ?_
  rintro r w8 ⟨rfl, b8⟩
  replace HH := Lib.hid (bel_trans HH.out b8)
  replace HS := Lib.hid (HS.out.below b8)
  clear b8
  refine hJ.out _ _ HS.out (fun _ => ?_)
  clear hJ J
  go_simp
  refine wpAnyH_take (i := 14) (v := (.string (i0 ++ (⟨#[32]⟩ : ByteArray) ++ nm ++ (⟨#[32]⟩ : ByteArray) ++ i2))) rfl (by kernel_rfl) (by kernel_rfl) (by kernel_rfl) (fun _ _ _ h => h) (.inl ⟨rfl, fun V hS => ?y0⟩) HS.out ?_
  case y0 =>
    clear hS
    go_simp
    omega
  go_simp
  refine wpAnyH_take (i := 15) (v := (.string (i0 ++ (⟨#[32]⟩ : ByteArray) ++ nm ++ (⟨#[32]⟩ : ByteArray) ++ i2 ++ (⟨#[32]⟩ : ByteArray)))) rfl (by kernel_rfl) (by kernel_rfl) (by kernel_rfl) (fun _ _ _ h => h) (.inl ⟨rfl, fun V hS => ?y0⟩) HS.out ?_
  case y0 =>
    clear hS
    go_simp
    omega
  go_simp
  refine wpAnyH_ready (rs := ([18])) (by kernel_rfl) (by simp) (AllReadyH.cons rfl (fun J hJ => ?_) AllReadyH.nil)
  go_simp
  refine ((HN3.out _)).mono ?_
  rintro r w8 ⟨rfl, b8⟩
  replace HH := Lib.hid (bel_trans HH.out b8)
  replace HS := Lib.hid (HS.out.below b8)
  clear b8
  refine hJ.out _ _ HS.out (fun _ => ?_)
  clear hJ J
  go_simp
  refine wpAnyH_take (i := 19) (v := (.string (i0 ++ (⟨#[32]⟩ : ByteArray) ++ nm ++ (⟨#[32]⟩ : ByteArray) ++ i2 ++ (⟨#[32]⟩ : ByteArray) ++ i3))) rfl (by kernel_rfl) (by kernel_rfl) (by kernel_rfl) (fun _ _ _ h => h) (.inl ⟨rfl, fun V hS => ?y0⟩) HS.out ?_
  case y0 =>
    clear hS
    go_simp
    omega
  go_simp
  refine wpAnyH_take (i := 20) (v := (.string (i0 ++ (⟨#[32]⟩ : ByteArray) ++ nm ++ (⟨#[32]⟩ : ByteArray) ++ i2 ++ (⟨#[32]⟩ : ByteArray) ++ i3 ++ (⟨#[32]⟩ : ByteArray)))) rfl (by kernel_rfl) (by kernel_rfl) (by kernel_rfl) (fun _ _ _ h => h) (.inl ⟨rfl, fun V hS => ?y0⟩) HS.out ?_
  case y0 =>
    clear hS
    go_simp
    omega
  go_simp
  refine wpAnyH_ready (rs := ([23])) (by kernel_rfl) (by simp) (AllReadyH.cons rfl (fun J hJ => ?_) AllReadyH.nil)
  go_simp
  refine ((HN4.out _)).mono ?_
  rintro r w8 ⟨rfl, b8⟩
  replace HH := Lib.hid (bel_trans HH.out b8)
  replace HS := Lib.hid (HS.out.below b8)
  clear b8
  refine hJ.out _ _ HS.out (fun _ => ?_)
  clear hJ J
  go_simp
  refine wpAnyH_take (i := 24) (v := (.string (i0 ++ (⟨#[32]⟩ : ByteArray) ++ nm ++ (⟨#[32]⟩ : ByteArray) ++ i2 ++ (⟨#[32]⟩ : ByteArray) ++ i3 ++ (⟨#[32]⟩ : ByteArray) ++ i4))) rfl (by kernel_rfl) (by kernel_rfl) (by kernel_rfl) (fun _ _ _ h => h) (.inl ⟨rfl, fun V hS => ?y0⟩) HS.out ?_
  case y0 =>
    clear hS
    go_simp
    omega
  go_simp
  refine wpAnyH_take (i := 25) (v := (.string (i0 ++ (⟨#[32]⟩ : ByteArray) ++ nm ++ (⟨#[32]⟩ : ByteArray) ++ i2 ++ (⟨#[32]⟩ : ByteArray) ++ i3 ++ (⟨#[32]⟩ : ByteArray) ++ i4))) rfl (by kernel_rfl) (by kernel_rfl) (by kernel_rfl) (fun _ _ _ h => h) (.inl ⟨rfl, fun V hS => ?y0⟩) HS.out ?_
  case y0 =>
    obtain ⟨y0, y1, y2, y3, y4, y5⟩ := hS
    go_simp
  go_simp
  refine wpAnyH_done (by kernel_rfl) ?_ _
  go_wp2
  go_ret
  exact ⟨by rw [Hr.out]; rfl, HH.out⟩
end Go.Proofs.YtbmfleakldhabaaDoor.Kn
