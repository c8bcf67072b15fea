/- Two items exchanged by the program's tree. -/
import Derived.Test.YtnmhdbfemobhkaaUp1
namespace Go.Proofs.Ytnmhdbfemobhkaa.Hp
open Go.RowKit Go.Deep Base

set_option maxRecDepth 100000 in
set_option maxHeartbeats 2000000 in
theorem exchange_any (b g n cap j k : Nat) (es : List Du) (w : World) (hn : es.length = n) (hj : j < n) (hk : k < n) (ht : Tr w b (some ⟨g, 0, none⟩) n cap) (h : Rd w g es) (hbg : b ≠ g) :
    Calls Try.prog 85 #[.pointer (some ⟨b, 0, none⟩), .int .i64 (j : Int), .int .i64 (k : Int)] w fun e w' => e = .returned (.tuple #[]) ∧ Rd w' g (swapD es j k) ∧ Tn g (g + 1) w w' := by
  have Hn := Lib.hid hn
  have HI := Lib.hid h
  obtain ⟨t0, t1, _⟩ := ht.cells
  obtain ⟨c0, c1, c2, cf⟩ := h j (by omega)
  obtain ⟨p0, p1, p2, _⟩ := h k (by omega)
  obtain ⟨dat, dseq, did, hd⟩ : ∃ a b c, es.getD j zDu = ⟨a, b, c⟩ := ⟨_, _, _, rfl⟩
  obtain ⟨pat, pseq, pid, hpd⟩ : ∃ a b c, es.getD k zDu = ⟨a, b, c⟩ := ⟨_, _, _, rfl⟩
  rw [hd] at c0 c1 c2
  rw [hpd] at p0 p1 p2
  dsimp only at p0 p1 p2 c0 c1 c2
  have Hd := Lib.hid hd
  have Hpd := Lib.hid hpd
  have hgb : g ≠ b := fun e => hbg e.symm
  have HS0 : Hid (w.drew.cell? ⟨b, 0, none⟩ = some (.slice (some ⟨g, 0, none⟩) n cap)) := t0
  have hbw : b < w.heap.size := ht.lt
  clear hd hpd hn h ht
  have hj0 : (0 : Int) ≤ (j : Int) := by omega
  have hj1 : (j : Int) < (n : Int) := by omega
  have hk0 : (0 : Int) ≤ (k : Int) := by omega
  have hk1 : (k : Int) < (n : Int) := by omega
  have HR1 := Lib.hid (HI.out.set3 j ⟨pat, pseq, pid⟩)
  have HT1 : Hid (Tn g (g + 1) w (set3 w g j ⟨pat, pseq, pid⟩)) := (Tn.of_below (Below.refl _ _)).set3 (Nat.le_refl _) (Nat.lt_succ_self _) j _
  go_enter Try.func85, Try.ntmps85
  go_wp2_with fail
  refine wp_region_held_drew (S := fun V => V.cell? ⟨b, 0, none⟩ = some (.slice (some ⟨g, 0, none⟩) n cap)) (by kernel_rfl) HS0.out (fun _ => ?_)
  refine wpAnyH_take (i := 0) (v := (.pointer (some ⟨b, 0, none⟩))) rfl (by kernel_rfl) (by kernel_rfl) (by kernel_rfl) (fun _ _ _ h => h) (.inl ⟨rfl, fun V hS => ?y0⟩) (HS0).out ?_
  case y0 =>
    go_simp
  go_simp
  refine wpAnyH_take (i := 1) (v := (.pointer (some ⟨b, 0, none⟩))) rfl (by kernel_rfl) (by kernel_rfl) (by kernel_rfl) (fun _ _ _ h => h) (.inl ⟨rfl, fun V hS => ?y0⟩) (HS0).out ?_
  case y0 =>
    go_simp
  go_simp
  refine wpAnyH_take (i := 2) (v := (.pointer (some ⟨b, 0, none⟩))) rfl (by kernel_rfl) (by kernel_rfl) (by kernel_rfl) (fun _ _ _ h => h) (.inl ⟨rfl, fun V hS => ?y0⟩) (HS0).out ?_
  case y0 =>
    go_simp
  go_simp
  refine wpAnyH_take (i := 3) (v := (.slice (some ⟨g, 0, none⟩) n cap)) rfl (by kernel_rfl) (by kernel_rfl) (by kernel_rfl) (fun _ _ _ h => h) (.inl ⟨rfl, fun V hS => ?y0⟩) (HS0).out ?_
  case y0 =>
    go_simp
  go_simp
  refine wpAnyH_take (i := 4) (v := (.int .i64 (j : Int))) rfl (by kernel_rfl) (by kernel_rfl) (by kernel_rfl) (fun _ _ _ h => h) (.inl ⟨rfl, fun V hS => ?y0⟩) (HS0).out ?_
  case y0 =>
    go_simp
  go_simp
  refine wpAnyH_take (i := 5) (v := (.pointer (some ⟨b, 0, none⟩))) rfl (by kernel_rfl) (by kernel_rfl) (by kernel_rfl) (fun _ _ _ h => h) (.inl ⟨rfl, fun V hS => ?y0⟩) (HS0).out ?_
  case y0 =>
    go_simp
  go_simp
  refine wpAnyH_take (i := 6) (v := (.pointer (some ⟨b, 0, none⟩))) rfl (by kernel_rfl) (by kernel_rfl) (by kernel_rfl) (fun _ _ _ h => h) (.inl ⟨rfl, fun V hS => ?y0⟩) (HS0).out ?_
  case y0 =>
    go_simp
  go_simp
  refine wpAnyH_take (i := 7) (v := (.pointer (some ⟨b, 0, none⟩))) rfl (by kernel_rfl) (by kernel_rfl) (by kernel_rfl) (fun _ _ _ h => h) (.inl ⟨rfl, fun V hS => ?y0⟩) (HS0).out ?_
  case y0 =>
    go_simp
  go_simp
  refine wpAnyH_take (i := 8) (v := (.slice (some ⟨g, 0, none⟩) n cap)) rfl (by kernel_rfl) (by kernel_rfl) (by kernel_rfl) (fun _ _ _ h => h) (.inl ⟨rfl, fun V hS => ?y0⟩) (HS0).out ?_
  case y0 =>
    go_simp
  go_simp
  refine wpAnyH_take (i := 9) (v := (.int .i64 (k : Int))) rfl (by kernel_rfl) (by kernel_rfl) (by kernel_rfl) (fun _ _ _ h => h) (.inl ⟨rfl, fun V hS => ?y0⟩) (HS0).out ?_
  case y0 =>
    go_simp
  go_simp
  refine wpAnyH_take (i := 10) (v := (.pointer (some ⟨b, 0, none⟩))) rfl (by kernel_rfl) (by kernel_rfl) (by kernel_rfl) (fun _ _ _ h => h) (.inl ⟨rfl, fun V hS => ?y0⟩) (HS0).out ?_
  case y0 =>
    go_simp
  go_simp
  refine wpAnyH_take (i := 11) (v := (.pointer (some ⟨b, 0, none⟩))) rfl (by kernel_rfl) (by kernel_rfl) (by kernel_rfl) (fun _ _ _ h => h) (.inl ⟨rfl, fun V hS => ?y0⟩) (HS0).out ?_
  case y0 =>
    go_simp
  go_simp
  refine wpAnyH_take (i := 12) (v := (.pointer (some ⟨b, 0, none⟩))) rfl (by kernel_rfl) (by kernel_rfl) (by kernel_rfl) (fun _ _ _ h => h) (.inl ⟨rfl, fun V hS => ?y0⟩) (HS0).out ?_
  case y0 =>
    go_simp
  go_simp
  refine wpAnyH_take (i := 13) (v := (.slice (some ⟨g, 0, none⟩) n cap)) rfl (by kernel_rfl) (by kernel_rfl) (by kernel_rfl) (fun _ _ _ h => h) (.inl ⟨rfl, fun V hS => ?y0⟩) (HS0).out ?_
  case y0 =>
    go_simp
  go_simp
  refine wpAnyH_take (i := 14) (v := (.int .i64 (k : Int))) rfl (by kernel_rfl) (by kernel_rfl) (by kernel_rfl) (fun _ _ _ h => h) (.inl ⟨rfl, fun V hS => ?y0⟩) (HS0).out ?_
  case y0 =>
    go_simp
  go_simp
  refine wpAnyH_take (i := 15) (v := (.pointer (some ⟨g, k * 3, none⟩))) rfl (by kernel_rfl) (by kernel_rfl) (by kernel_rfl) (fun _ _ _ h => h) (.inl ⟨rfl, fun V hS => ?y0⟩) (HS0).out ?_
  case y0 =>
    go_simp
  go_simp
  refine wpAnyH_take (i := 17) (v := (.pointer (some ⟨b, 0, none⟩))) rfl (by kernel_rfl) (by kernel_rfl) (by kernel_rfl) (fun _ _ _ h => h) (.inl ⟨rfl, fun V hS => ?y0⟩) (HS0).out ?_
  case y0 =>
    go_simp
  go_simp
  refine wpAnyH_take (i := 18) (v := (.pointer (some ⟨b, 0, none⟩))) rfl (by kernel_rfl) (by kernel_rfl) (by kernel_rfl) (fun _ _ _ h => h) (.inl ⟨rfl, fun V hS => ?y0⟩) (HS0).out ?_
  case y0 =>
    go_simp
  go_simp
  refine wpAnyH_take (i := 19) (v := (.pointer (some ⟨b, 0, none⟩))) rfl (by kernel_rfl) (by kernel_rfl) (by kernel_rfl) (fun _ _ _ h => h) (.inl ⟨rfl, fun V hS => ?y0⟩) (HS0).out ?_
  case y0 =>
    go_simp
  go_simp
  refine wpAnyH_take (i := 20) (v := (.slice (some ⟨g, 0, none⟩) n cap)) rfl (by kernel_rfl) (by kernel_rfl) (by kernel_rfl) (fun _ _ _ h => h) (.inl ⟨rfl, fun V hS => ?y0⟩) (HS0).out ?_
  case y0 =>
    go_simp
  go_simp
  refine wpAnyH_take (i := 21) (v := (.int .i64 (j : Int))) rfl (by kernel_rfl) (by kernel_rfl) (by kernel_rfl) (fun _ _ _ h => h) (.inl ⟨rfl, fun V hS => ?y0⟩) (HS0).out ?_
  case y0 =>
    go_simp
  go_simp
  refine wpAnyH_take (i := 22) (v := (.pointer (some ⟨g, j * 3, none⟩))) rfl (by kernel_rfl) (by kernel_rfl) (by kernel_rfl) (fun _ _ _ h => h) (.inl ⟨rfl, fun V hS => ?y0⟩) (HS0).out ?_
  case y0 =>
    go_simp
  go_simp
  refine wpAnyH_ready (rs := [16, 23]) (by kernel_rfl) (by simp) (AllReadyH.cons rfl (fun J hJ => ?_) (AllReadyH.cons rfl (fun J hJ => ?_) AllReadyH.nil))
  · go_simp
    refine hJ.out _ _ HS0.out (fun _ => ?_)
    clear hJ J
    refine wpAnyH_ready (rs := [23]) (by kernel_rfl) (by simp) (AllReadyH.cons rfl (fun J hJ => ?_) AllReadyH.nil)
    go_simp
    refine hJ.out _ _ HS0.out (fun _ => ?_)
    clear hJ J
    refine wpAnyH_take (i := 24) (v := (.pointer (some ⟨g, j * 3, none⟩))) rfl (by kernel_rfl) (by kernel_rfl) (by kernel_rfl) (fun _ _ _ h => h) (.inl ⟨rfl, fun V hS => ?y0⟩) (HS0).out ?_
    case y0 =>
      go_simp
    go_simp
    refine wpAnyH_ready (rs := [25]) (by kernel_rfl) (by simp) (AllReadyH.cons rfl (fun J hJ => ?_) AllReadyH.nil)
    go_simp
    obtain ⟨W1, hW1⟩ : ∃ W1, (((w.setCell ⟨g, j * 3, none⟩ (.int .i64 pat)).setCell ⟨g, j * 3 + 1, none⟩ (.int .i64 pseq)).setCell ⟨g, j * 3 + 2, none⟩ (.int .i64 pid)).drew = W1 := ⟨_, rfl⟩
    have R1 : Hid (Rd W1 g (es.set j ⟨pat, pseq, pid⟩)) := by rw [← hW1]; exact HR1.out.of_block rfl
    have T1 : Hid (Tn g (g + 1) w W1) := by rw [← hW1]; exact HT1.out.trans (Tn.of_below (Below.refl _ _).drew)
    rw [hW1]
    clear hW1 c0 c1 c2 p0 p1 p2 cf
    have HS1 : Hid (W1.cell? ⟨b, 0, none⟩ = some (.slice (some ⟨g, 0, none⟩) n cap)) := (World.cell?_of_block (w := w) (T1.out.block b hbw (by omega))).trans HS0.out
    refine hJ.out _ _ HS1.out (fun _ => ?_)
    clear hJ J
    obtain ⟨c0, c1, c2, cf⟩ := R1.out k (by rw [List.length_set, Hn.out]; exact hk)
    generalize (es.set j ⟨pat, pseq, pid⟩).getD k zDu = x at c0 c1 c2
    refine wpAnyH_take (i := 26) (v := (.pointer (some ⟨g, k * 3, none⟩))) rfl (by kernel_rfl) (by kernel_rfl) (by kernel_rfl) (fun _ _ _ h => h) (.inl ⟨rfl, fun V hS => ?y0⟩) (HS1).out ?_
    case y0 =>
      go_simp
    go_simp
    refine wpAnyH_ready (rs := [27]) (by kernel_rfl) (by simp) (AllReadyH.cons rfl (fun J hJ => ?_) AllReadyH.nil)
    go_simp
    have HS2 : Hid ((set3 W1 g k ⟨dat, dseq, did⟩).cell? ⟨b, 0, none⟩ = some (.slice (some ⟨g, 0, none⟩) n cap)) := (World.cell?_of_block (w := w) (((T1.out.set3 (Nat.le_refl _) (Nat.lt_succ_self _) k ⟨dat, dseq, did⟩)).block b hbw (by omega))).trans HS0.out
    refine hJ.out _ _ HS2.out (fun _ => ?_)
    clear hJ J
    refine wpAnyH_done (by kernel_rfl) ?_ _
    go_wp2
    go_end0
    refine ⟨rfl, ?_, ?_⟩
    · have h2 : swapD es j k = (es.set j ⟨pat, pseq, pid⟩).set k ⟨dat, dseq, did⟩ := by unfold swapD; rw [Hd.out, Hpd.out]
      rw [h2]
      exact (R1.out.set3 k ⟨dat, dseq, did⟩).of_block rfl
    · exact T1.out.set3 (Nat.le_refl _) (Nat.lt_succ_self _) k ⟨dat, dseq, did⟩
  · go_simp
    refine hJ.out _ _ HS0.out (fun _ => ?_)
    clear hJ J
    refine wpAnyH_ready (rs := [16]) (by kernel_rfl) (by simp) (AllReadyH.cons rfl (fun J hJ => ?_) AllReadyH.nil)
    go_simp
    refine hJ.out _ _ HS0.out (fun _ => ?_)
    clear hJ J
    refine wpAnyH_take (i := 24) (v := (.pointer (some ⟨g, j * 3, none⟩))) rfl (by kernel_rfl) (by kernel_rfl) (by kernel_rfl) (fun _ _ _ h => h) (.inl ⟨rfl, fun V hS => ?y0⟩) (HS0).out ?_
    case y0 =>
      go_simp
    go_simp
    refine wpAnyH_ready (rs := [25]) (by kernel_rfl) (by simp) (AllReadyH.cons rfl (fun J hJ => ?_) AllReadyH.nil)
    go_simp
    obtain ⟨W1, hW1⟩ : ∃ W1, (((w.setCell ⟨g, j * 3, none⟩ (.int .i64 pat)).setCell ⟨g, j * 3 + 1, none⟩ (.int .i64 pseq)).setCell ⟨g, j * 3 + 2, none⟩ (.int .i64 pid)).drew = W1 := ⟨_, rfl⟩
    have R1 : Hid (Rd W1 g (es.set j ⟨pat, pseq, pid⟩)) := by rw [← hW1]; exact HR1.out.of_block rfl
    have T1 : Hid (Tn g (g + 1) w W1) := by rw [← hW1]; exact HT1.out.trans (Tn.of_below (Below.refl _ _).drew)
    rw [hW1]
    clear hW1 c0 c1 c2 p0 p1 p2 cf
    have HS1 : Hid (W1.cell? ⟨b, 0, none⟩ = some (.slice (some ⟨g, 0, none⟩) n cap)) := (World.cell?_of_block (w := w) (T1.out.block b hbw (by omega))).trans HS0.out
    refine hJ.out _ _ HS1.out (fun _ => ?_)
    clear hJ J
    obtain ⟨c0, c1, c2, cf⟩ := R1.out k (by rw [List.length_set, Hn.out]; exact hk)
    generalize (es.set j ⟨pat, pseq, pid⟩).getD k zDu = x at c0 c1 c2
    refine wpAnyH_take (i := 26) (v := (.pointer (some ⟨g, k * 3, none⟩))) rfl (by kernel_rfl) (by kernel_rfl) (by kernel_rfl) (fun _ _ _ h => h) (.inl ⟨rfl, fun V hS => ?y0⟩) (HS1).out ?_
    case y0 =>
      go_simp
    go_simp
    refine wpAnyH_ready (rs := [27]) (by kernel_rfl) (by simp) (AllReadyH.cons rfl (fun J hJ => ?_) AllReadyH.nil)
    go_simp
    have HS2 : Hid ((set3 W1 g k ⟨dat, dseq, did⟩).cell? ⟨b, 0, none⟩ = some (.slice (some ⟨g, 0, none⟩) n cap)) := (World.cell?_of_block (w := w) (((T1.out.set3 (Nat.le_refl _) (Nat.lt_succ_self _) k ⟨dat, dseq, did⟩)).block b hbw (by omega))).trans HS0.out
    refine hJ.out _ _ HS2.out (fun _ => ?_)
    clear hJ J
    refine wpAnyH_done (by kernel_rfl) ?_ _
    go_wp2
    go_end0
    refine ⟨rfl, ?_, ?_⟩
    · have h2 : swapD es j k = (es.set j ⟨pat, pseq, pid⟩).set k ⟨dat, dseq, did⟩ := by unfold swapD; rw [Hd.out, Hpd.out]
      rw [h2]
      exact (R1.out.set3 k ⟨dat, dseq, did⟩).of_block rfl
    · exact T1.out.set3 (Nat.le_refl _) (Nat.lt_succ_self _) k ⟨dat, dseq, did⟩
end Go.Proofs.Ytnmhdbfemobhkaa.Hp
