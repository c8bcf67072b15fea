/- The program's take, where the step's connection and tick are valid: the move that the event names decides. -/
import Derived.Test.YtbmfleakldhabaaDoorKn8
namespace Go.Proofs.YtbmfleakldhabaaDoor.Kn
open Go.RowKit Go.Deep Base Tick Rw

set_option maxRecDepth 100000 in
set_option maxHeartbeats 2000000 in
theorem take_no3 (b : Nat) (k : Nat → Int) (t : Bool) (e now n : Int) (p : Addr) (w : World) (h : SC b (k 0) (k 1) (k 2) (k 3) (k 4) t now n w) (he : Er p w) (h0 : okN k t = true) (h1 : isT now = true) (h2 : k 3 ≤ now) (h3 : inB e 0 7 = false) :
    Calls Tryd.prog 53 #[.pointer (some ⟨b, 0, none⟩), .int .i64 e] w fun r w' => r = refused p ∧ Turns b (b + 1) w w' := by
  have HK : Hid (∀ V, Calls Tryd.prog 48 #[.agg #[.int .i64 (k 0), .int .i64 (k 1), .int .i64 (k 2), .int .i64 (k 3), .int .i64 (k 4), .bool t]] V fun e w' => e = .returned (.bool true) ∧ Below V.heap.size V w') := fun V => by have := implConnOk_any k t V; rw [h0] at this; exact this
  have HT : Hid (∀ V, Calls Tryd.prog 55 #[.int .i64 now] V fun e w' => e = .returned (.bool true) ∧ Below V.heap.size V w') := fun V => by have := implTickOk_any now V; rw [h1] at this; exact this
  have h2b : decide (k 3 ≤ now) = true := decide_eq_true h2
  have H3 := Lib.hid h3
  clear h0 h1 h2 h3
  have HH : Hid (Below w.heap.size w w.drew) := (Below.refl _ _).drew
  have HS : Hid (SC b (k 0) (k 1) (k 2) (k 3) (k 4) t now n w.drew) := h.below HH.out
  have HE := Lib.hid he
  clear h he
  go_enter Tryd.func53, Tryd.ntmps53
  go_wp2_with fail
  refine wp_region_held_drew (S := SC b (k 0) (k 1) (k 2) (k 3) (k 4) t now n) (by kernel_rfl) HS.out (fun _ => ?_)
  refine wpAnyH_take (i := 0) (v := (.pointer (some ⟨b, 0, none⟩))) rfl (by kernel_rfl) (by kernel_rfl) (by kernel_rfl) (fun _ _ _ h => h) (.inl ⟨rfl, fun V hS => ?y0⟩) HS.out ?_
  case y0 =>
    clear hS
    go_simp
  go_simp
  refine wpAnyH_take (i := 1) (v := (.pointer (some ⟨b, 0, none⟩))) rfl (by kernel_rfl) (by kernel_rfl) (by kernel_rfl) (fun _ _ _ h => h) (.inl ⟨rfl, fun V hS => ?y0⟩) HS.out ?_
  case y0 =>
    clear hS
    go_simp
  go_simp
  refine wpAnyH_take (i := 2) (v := (.pointer (some ⟨b, 0, none⟩))) rfl (by kernel_rfl) (by kernel_rfl) (by kernel_rfl) (fun _ _ _ h => h) (.inl ⟨rfl, fun V hS => ?y0⟩) HS.out ?_
  case y0 =>
    clear hS
    go_simp
  go_simp
  refine wpAnyH_take (i := 3) (v := (.agg #[.int .i64 (k 0), .int .i64 (k 1), .int .i64 (k 2), .int .i64 (k 3), .int .i64 (k 4), .bool t])) rfl (by kernel_rfl) (by kernel_rfl) (by kernel_rfl) (fun _ _ _ h => h) (.inl ⟨rfl, fun V hS => ?y0⟩) HS.out ?_
  case y0 =>
    obtain ⟨y0, y1, y2, y3, y4, y5, y6, y7, y8⟩ := hS
    go_simp
  go_simp
  refine wpAnyH_ready (rs := ([4])) (by kernel_rfl) (by simp) (AllReadyH.cons rfl (fun J hJ => ?_) AllReadyH.nil)
  go_simp
  refine ((HK.out _)).mono ?_
  rintro r w8 ⟨rfl, b8⟩
  replace HH := Lib.hid (bel_trans HH.out b8)
  replace HS := Lib.hid (HS.out.below b8)
  clear b8
  refine hJ.out _ _ HS.out (fun _ => ?_)
  clear hJ J
  go_simp
  skip
  refine wpAnyH_take (i := 5) (v := (.bool true)) rfl (by kernel_rfl) (by kernel_rfl) (by kernel_rfl) (fun _ _ _ h => h) (.inl ⟨rfl, fun V hS => ?y0⟩) HS.out ?_
  case y0 =>
    clear hS
    go_simp
  go_simp
  refine wpAnyH_take (i := 6) (v := (.pointer (some ⟨b, 0, none⟩))) rfl (by kernel_rfl) (by kernel_rfl) (by kernel_rfl) (fun _ _ _ h => h) (.inl ⟨rfl, fun V hS => ?y0⟩) HS.out ?_
  case y0 =>
    clear hS
    go_simp
  go_simp
  refine wpAnyH_take (i := 7) (v := (.pointer (some ⟨b, 0, none⟩))) rfl (by kernel_rfl) (by kernel_rfl) (by kernel_rfl) (fun _ _ _ h => h) (.inl ⟨rfl, fun V hS => ?y0⟩) HS.out ?_
  case y0 =>
    clear hS
    go_simp
  go_simp
  refine wpAnyH_take (i := 8) (v := (.pointer (some ⟨b, 6, none⟩))) rfl (by kernel_rfl) (by kernel_rfl) (by kernel_rfl) (fun _ _ _ h => h) (.inl ⟨rfl, fun V hS => ?y0⟩) HS.out ?_
  case y0 =>
    clear hS
    go_simp
  go_simp
  refine wpAnyH_take (i := 9) (v := (.int .i64 now)) rfl (by kernel_rfl) (by kernel_rfl) (by kernel_rfl) (fun _ _ _ h => h) (.inl ⟨rfl, fun V hS => ?y0⟩) HS.out ?_
  case y0 =>
    obtain ⟨y0, y1, y2, y3, y4, y5, y6, y7, y8⟩ := hS
    go_simp
  go_simp
  refine wpAnyH_ready (rs := ([10])) (by kernel_rfl) (by simp) (AllReadyH.cons rfl (fun J hJ => ?_) AllReadyH.nil)
  go_simp
  refine ((HT.out _)).mono ?_
  rintro r w8 ⟨rfl, b8⟩
  replace HH := Lib.hid (bel_trans HH.out b8)
  replace HS := Lib.hid (HS.out.below b8)
  clear b8
  refine hJ.out _ _ HS.out (fun _ => ?_)
  clear hJ J
  go_simp
  skip
  refine wpAnyH_take (i := 11) (v := (.bool true)) rfl (by kernel_rfl) (by kernel_rfl) (by kernel_rfl) (fun _ _ _ h => h) (.inl ⟨rfl, fun V hS => ?y0⟩) HS.out ?_
  case y0 =>
    clear hS
    go_simp
  go_simp
  refine wpAnyH_take (i := 12) (v := (.bool true)) rfl (by kernel_rfl) (by kernel_rfl) (by kernel_rfl) (fun _ _ _ h => h) (.inl ⟨rfl, fun V hS => ?y0⟩) HS.out ?_
  case y0 =>
    clear hS
    go_simp
  go_simp
  refine wpAnyH_take (i := 13) (v := (.pointer (some ⟨b, 0, none⟩))) rfl (by kernel_rfl) (by kernel_rfl) (by kernel_rfl) (fun _ _ _ h => h) (.inl ⟨rfl, fun V hS => ?y0⟩) HS.out ?_
  case y0 =>
    clear hS
    go_simp
  go_simp
  refine wpAnyH_take (i := 14) (v := (.pointer (some ⟨b, 0, none⟩))) rfl (by kernel_rfl) (by kernel_rfl) (by kernel_rfl) (fun _ _ _ h => h) (.inl ⟨rfl, fun V hS => ?y0⟩) HS.out ?_
  case y0 =>
    clear hS
    go_simp
  go_simp
  refine wpAnyH_take (i := 15) (v := (.pointer (some ⟨b, 6, none⟩))) rfl (by kernel_rfl) (by kernel_rfl) (by kernel_rfl) (fun _ _ _ h => h) (.inl ⟨rfl, fun V hS => ?y0⟩) HS.out ?_
  case y0 =>
    clear hS
    go_simp
  go_simp
  refine wpAnyH_take (i := 16) (v := (.int .i64 now)) rfl (by kernel_rfl) (by kernel_rfl) (by kernel_rfl) (fun _ _ _ h => h) (.inl ⟨rfl, fun V hS => ?y0⟩) HS.out ?_
  case y0 =>
    obtain ⟨y0, y1, y2, y3, y4, y5, y6, y7, y8⟩ := hS
    go_simp
  go_simp
  refine wpAnyH_take (i := 17) (v := (.pointer (some ⟨b, 0, none⟩))) rfl (by kernel_rfl) (by kernel_rfl) (by kernel_rfl) (fun _ _ _ h => h) (.inl ⟨rfl, fun V hS => ?y0⟩) HS.out ?_
  case y0 =>
    clear hS
    go_simp
  go_simp
  refine wpAnyH_take (i := 18) (v := (.pointer (some ⟨b, 0, none⟩))) rfl (by kernel_rfl) (by kernel_rfl) (by kernel_rfl) (fun _ _ _ h => h) (.inl ⟨rfl, fun V hS => ?y0⟩) HS.out ?_
  case y0 =>
    clear hS
    go_simp
  go_simp
  refine wpAnyH_take (i := 19) (v := (.pointer (some ⟨b, 0, none⟩))) rfl (by kernel_rfl) (by kernel_rfl) (by kernel_rfl) (fun _ _ _ h => h) (.inl ⟨rfl, fun V hS => ?y0⟩) HS.out ?_
  case y0 =>
    clear hS
    go_simp
  go_simp
  refine wpAnyH_take (i := 20) (v := (.pointer (some ⟨b, 3, none⟩))) rfl (by kernel_rfl) (by kernel_rfl) (by kernel_rfl) (fun _ _ _ h => h) (.inl ⟨rfl, fun V hS => ?y0⟩) HS.out ?_
  case y0 =>
    clear hS
    go_simp
  go_simp
  refine wpAnyH_take (i := 21) (v := (.int .i64 (k 3))) rfl (by kernel_rfl) (by kernel_rfl) (by kernel_rfl) (fun _ _ _ h => h) (.inl ⟨rfl, fun V hS => ?y0⟩) HS.out ?_
  case y0 =>
    obtain ⟨y0, y1, y2, y3, y4, y5, y6, y7, y8⟩ := hS
    go_simp
  go_simp
  refine wpAnyH_take (i := 22) (v := (.bool true)) rfl (by kernel_rfl) (by kernel_rfl) (by kernel_rfl) (fun _ _ _ h => h) (.inl ⟨rfl, fun V hS => ?y0⟩) HS.out ?_
  case y0 =>
    clear hS
    go_simp
  go_simp
  refine wpAnyH_take (i := 23) (v := (.bool true)) rfl (by kernel_rfl) (by kernel_rfl) (by kernel_rfl) (fun _ _ _ h => h) (.inl ⟨rfl, fun V hS => ?y0⟩) HS.out ?_
  case y0 =>
    clear hS
    go_simp
  go_simp
  skip
  refine wpAnyH_ready (rs := [24]) (by kernel_rfl) (by simp) (AllReadyH.cons rfl (fun J hJ => ?_) AllReadyH.nil)
  go_simp
  refine (demand_yes _).mono ?_
  rintro r w9 ⟨rfl, rfl⟩
  refine hJ.out _ _ HS.out (fun _ => ?_)
  clear hJ J
  go_simp
  refine wpAnyH_done (by kernel_rfl) ?_ _
  go_wp2_with fail
  refine (moves_any b _).mono ?_
  rintro r w9 ⟨rfl, rfl⟩
  have HX : Hid (Below w.heap.size w (w8.alloc (.cells (mvs b) 1))) := Lib.hid (bel_trans HH.out (bel_alloc _ _))
  have HR : Hid ((w8.alloc (.cells (mvs b) 1)).heap[w8.heap.size]? = some (.cells (mvs b) 1 (0, 0))) := heap_alloc_new _ _
  replace HS := Lib.hid (HS.out.below (bel_alloc w8 (.cells (mvs b) 1)))
  replace HE := Lib.hid (HE.out.below HX.out)
  obtain ⟨w9, hw9⟩ : ∃ w9, w8.alloc (.cells (mvs b) 1) = w9 := ⟨_, rfl⟩
  obtain ⟨g, hg⟩ : ∃ g, w8.heap.size = g := ⟨_, rfl⟩
  rw [hw9] at HX HR HS HE ⊢
  rw [hg] at HR ⊢
  clear hw9 hg
  go_wp2_with fail
  refine (Cf.within_any _ _ _ _).mono ?_
  rintro r w' ⟨rfl, rfl⟩
  rw [H3.out]
  go_wp2_with fail
  refine (demand_no p _ HE.out).mono ?_
  rintro r w' ⟨rfl, rfl⟩
  exact ⟨rfl, rfl, Turns.of_below HX.out⟩

set_option maxRecDepth 100000 in
set_option maxHeartbeats 2000000 in
theorem take_pass (b : Nat) (k : Nat → Int) (t : Bool) (j f : Nat) (now n : Int) (p : Addr) (w : World) (h : SC b (k 0) (k 1) (k 2) (k 3) (k 4) t now n w) (he : Er p w) (h0 : okN k t = true) (h1 : isT now = true) (h2 : k 3 ≤ now) (hj : j ≤ 7) (hen : ∀ V, (callFunc f #[.pointer (some ⟨b, 0, none⟩)]).run Tryd.prog V = .ok (.enter f #[.pointer (some ⟨b, 0, none⟩)]) V) (hf : (mvs b)[j]? = some (.func (.func f) #[.pointer (some ⟨b, 0, none⟩)] #[]))
    (r0 : Ending) (hr0 : r0 = .returned (.tuple #[]) ∨ r0 = refused p) (R : World → Prop)
    (hcall : ∀ V, Below w.heap.size w V → SC b (k 0) (k 1) (k 2) (k 3) (k 4) t now n V → Er p V → Calls Tryd.prog f #[.pointer (some ⟨b, 0, none⟩)] V fun r w' => r = r0 ∧ R w') :
    Calls Tryd.prog 53 #[.pointer (some ⟨b, 0, none⟩), .int .i64 j] w fun r w' => r = r0 ∧ R w' := by
  have HK : Hid (∀ V, Calls Tryd.prog 48 #[.agg #[.int .i64 (k 0), .int .i64 (k 1), .int .i64 (k 2), .int .i64 (k 3), .int .i64 (k 4), .bool t]] V fun e w' => e = .returned (.bool true) ∧ Below V.heap.size V w') := fun V => by have := implConnOk_any k t V; rw [h0] at this; exact this
  have HT : Hid (∀ V, Calls Tryd.prog 55 #[.int .i64 now] V fun e w' => e = .returned (.bool true) ∧ Below V.heap.size V w') := fun V => by have := implTickOk_any now V; rw [h1] at this; exact this
  have h2b : decide (k 3 ≤ now) = true := decide_eq_true h2
  have H3 : Hid (inB (j : Int) 0 7 = true) := inB_true (by omega) (by omega)
  have HF := Lib.hid hf
  have HC := Lib.hid hcall
  have H0 := Lib.hid hr0
  clear h0 h1 h2 hf hcall hr0
  have HH : Hid (Below w.heap.size w w.drew) := (Below.refl _ _).drew
  have HS : Hid (SC b (k 0) (k 1) (k 2) (k 3) (k 4) t now n w.drew) := h.below HH.out
  have HE := Lib.hid he
  clear h he
  go_enter Tryd.func53, Tryd.ntmps53
  go_wp2_with fail
  refine wp_region_held_drew (S := SC b (k 0) (k 1) (k 2) (k 3) (k 4) t now n) (by kernel_rfl) HS.out (fun _ => ?_)
  refine wpAnyH_take (i := 0) (v := (.pointer (some ⟨b, 0, none⟩))) rfl (by kernel_rfl) (by kernel_rfl) (by kernel_rfl) (fun _ _ _ h => h) (.inl ⟨rfl, fun V hS => ?y0⟩) HS.out ?_
  case y0 =>
    clear hS
    go_simp
  go_simp
  refine wpAnyH_take (i := 1) (v := (.pointer (some ⟨b, 0, none⟩))) rfl (by kernel_rfl) (by kernel_rfl) (by kernel_rfl) (fun _ _ _ h => h) (.inl ⟨rfl, fun V hS => ?y0⟩) HS.out ?_
  case y0 =>
    clear hS
    go_simp
  go_simp
  refine wpAnyH_take (i := 2) (v := (.pointer (some ⟨b, 0, none⟩))) rfl (by kernel_rfl) (by kernel_rfl) (by kernel_rfl) (fun _ _ _ h => h) (.inl ⟨rfl, fun V hS => ?y0⟩) HS.out ?_
  case y0 =>
    clear hS
    go_simp
  go_simp
  refine wpAnyH_take (i := 3) (v := (.agg #[.int .i64 (k 0), .int .i64 (k 1), .int .i64 (k 2), .int .i64 (k 3), .int .i64 (k 4), .bool t])) rfl (by kernel_rfl) (by kernel_rfl) (by kernel_rfl) (fun _ _ _ h => h) (.inl ⟨rfl, fun V hS => ?y0⟩) HS.out ?_
  case y0 =>
    obtain ⟨y0, y1, y2, y3, y4, y5, y6, y7, y8⟩ := hS
    go_simp
  go_simp
  refine wpAnyH_ready (rs := ([4])) (by kernel_rfl) (by simp) (AllReadyH.cons rfl (fun J hJ => ?_) AllReadyH.nil)
  go_simp
  refine ((HK.out _)).mono ?_
  rintro r w8 ⟨rfl, b8⟩
  replace HH := Lib.hid (bel_trans HH.out b8)
  replace HS := Lib.hid (HS.out.below b8)
  clear b8
  refine hJ.out _ _ HS.out (fun _ => ?_)
  clear hJ J
  go_simp
  skip
  refine wpAnyH_take (i := 5) (v := (.bool true)) rfl (by kernel_rfl) (by kernel_rfl) (by kernel_rfl) (fun _ _ _ h => h) (.inl ⟨rfl, fun V hS => ?y0⟩) HS.out ?_
  case y0 =>
    clear hS
    go_simp
  go_simp
  refine wpAnyH_take (i := 6) (v := (.pointer (some ⟨b, 0, none⟩))) rfl (by kernel_rfl) (by kernel_rfl) (by kernel_rfl) (fun _ _ _ h => h) (.inl ⟨rfl, fun V hS => ?y0⟩) HS.out ?_
  case y0 =>
    clear hS
    go_simp
  go_simp
  refine wpAnyH_take (i := 7) (v := (.pointer (some ⟨b, 0, none⟩))) rfl (by kernel_rfl) (by kernel_rfl) (by kernel_rfl) (fun _ _ _ h => h) (.inl ⟨rfl, fun V hS => ?y0⟩) HS.out ?_
  case y0 =>
    clear hS
    go_simp
  go_simp
  refine wpAnyH_take (i := 8) (v := (.pointer (some ⟨b, 6, none⟩))) rfl (by kernel_rfl) (by kernel_rfl) (by kernel_rfl) (fun _ _ _ h => h) (.inl ⟨rfl, fun V hS => ?y0⟩) HS.out ?_
  case y0 =>
    clear hS
    go_simp
  go_simp
  refine wpAnyH_take (i := 9) (v := (.int .i64 now)) rfl (by kernel_rfl) (by kernel_rfl) (by kernel_rfl) (fun _ _ _ h => h) (.inl ⟨rfl, fun V hS => ?y0⟩) HS.out ?_
  case y0 =>
    obtain ⟨y0, y1, y2, y3, y4, y5, y6, y7, y8⟩ := hS
    go_simp
  go_simp
  refine wpAnyH_ready (rs := ([10])) (by kernel_rfl) (by simp) (AllReadyH.cons rfl (fun J hJ => ?_) AllReadyH.nil)
  go_simp
  refine ((HT.out _)).mono ?_
  rintro r w8 ⟨rfl, b8⟩
  replace HH := Lib.hid (bel_trans HH.out b8)
  replace HS := Lib.hid (HS.out.below b8)
  clear b8
  refine hJ.out _ _ HS.out (fun _ => ?_)
  clear hJ J
  go_simp
  skip
  refine wpAnyH_take (i := 11) (v := (.bool true)) rfl (by kernel_rfl) (by kernel_rfl) (by kernel_rfl) (fun _ _ _ h => h) (.inl ⟨rfl, fun V hS => ?y0⟩) HS.out ?_
  case y0 =>
    clear hS
    go_simp
  go_simp
  refine wpAnyH_take (i := 12) (v := (.bool true)) rfl (by kernel_rfl) (by kernel_rfl) (by kernel_rfl) (fun _ _ _ h => h) (.inl ⟨rfl, fun V hS => ?y0⟩) HS.out ?_
  case y0 =>
    clear hS
    go_simp
  go_simp
  refine wpAnyH_take (i := 13) (v := (.pointer (some ⟨b, 0, none⟩))) rfl (by kernel_rfl) (by kernel_rfl) (by kernel_rfl) (fun _ _ _ h => h) (.inl ⟨rfl, fun V hS => ?y0⟩) HS.out ?_
  case y0 =>
    clear hS
    go_simp
  go_simp
  refine wpAnyH_take (i := 14) (v := (.pointer (some ⟨b, 0, none⟩))) rfl (by kernel_rfl) (by kernel_rfl) (by kernel_rfl) (fun _ _ _ h => h) (.inl ⟨rfl, fun V hS => ?y0⟩) HS.out ?_
  case y0 =>
    clear hS
    go_simp
  go_simp
  refine wpAnyH_take (i := 15) (v := (.pointer (some ⟨b, 6, none⟩))) rfl (by kernel_rfl) (by kernel_rfl) (by kernel_rfl) (fun _ _ _ h => h) (.inl ⟨rfl, fun V hS => ?y0⟩) HS.out ?_
  case y0 =>
    clear hS
    go_simp
  go_simp
  refine wpAnyH_take (i := 16) (v := (.int .i64 now)) rfl (by kernel_rfl) (by kernel_rfl) (by kernel_rfl) (fun _ _ _ h => h) (.inl ⟨rfl, fun V hS => ?y0⟩) HS.out ?_
  case y0 =>
    obtain ⟨y0, y1, y2, y3, y4, y5, y6, y7, y8⟩ := hS
    go_simp
  go_simp
  refine wpAnyH_take (i := 17) (v := (.pointer (some ⟨b, 0, none⟩))) rfl (by kernel_rfl) (by kernel_rfl) (by kernel_rfl) (fun _ _ _ h => h) (.inl ⟨rfl, fun V hS => ?y0⟩) HS.out ?_
  case y0 =>
    clear hS
    go_simp
  go_simp
  refine wpAnyH_take (i := 18) (v := (.pointer (some ⟨b, 0, none⟩))) rfl (by kernel_rfl) (by kernel_rfl) (by kernel_rfl) (fun _ _ _ h => h) (.inl ⟨rfl, fun V hS => ?y0⟩) HS.out ?_
  case y0 =>
    clear hS
    go_simp
  go_simp
  refine wpAnyH_take (i := 19) (v := (.pointer (some ⟨b, 0, none⟩))) rfl (by kernel_rfl) (by kernel_rfl) (by kernel_rfl) (fun _ _ _ h => h) (.inl ⟨rfl, fun V hS => ?y0⟩) HS.out ?_
  case y0 =>
    clear hS
    go_simp
  go_simp
  refine wpAnyH_take (i := 20) (v := (.pointer (some ⟨b, 3, none⟩))) rfl (by kernel_rfl) (by kernel_rfl) (by kernel_rfl) (fun _ _ _ h => h) (.inl ⟨rfl, fun V hS => ?y0⟩) HS.out ?_
  case y0 =>
    clear hS
    go_simp
  go_simp
  refine wpAnyH_take (i := 21) (v := (.int .i64 (k 3))) rfl (by kernel_rfl) (by kernel_rfl) (by kernel_rfl) (fun _ _ _ h => h) (.inl ⟨rfl, fun V hS => ?y0⟩) HS.out ?_
  case y0 =>
    obtain ⟨y0, y1, y2, y3, y4, y5, y6, y7, y8⟩ := hS
    go_simp
  go_simp
  refine wpAnyH_take (i := 22) (v := (.bool true)) rfl (by kernel_rfl) (by kernel_rfl) (by kernel_rfl) (fun _ _ _ h => h) (.inl ⟨rfl, fun V hS => ?y0⟩) HS.out ?_
  case y0 =>
    clear hS
    go_simp
  go_simp
  refine wpAnyH_take (i := 23) (v := (.bool true)) rfl (by kernel_rfl) (by kernel_rfl) (by kernel_rfl) (fun _ _ _ h => h) (.inl ⟨rfl, fun V hS => ?y0⟩) HS.out ?_
  case y0 =>
    clear hS
    go_simp
  go_simp
  skip
  refine wpAnyH_ready (rs := [24]) (by kernel_rfl) (by simp) (AllReadyH.cons rfl (fun J hJ => ?_) AllReadyH.nil)
  go_simp
  refine (demand_yes _).mono ?_
  rintro r w9 ⟨rfl, rfl⟩
  refine hJ.out _ _ HS.out (fun _ => ?_)
  clear hJ J
  go_simp
  refine wpAnyH_done (by kernel_rfl) ?_ _
  go_wp2_with fail
  refine (moves_any b _).mono ?_
  rintro r w9 ⟨rfl, rfl⟩
  have HX : Hid (Below w.heap.size w (w8.alloc (.cells (mvs b) 1))) := Lib.hid (bel_trans HH.out (bel_alloc _ _))
  have HR : Hid ((w8.alloc (.cells (mvs b) 1)).heap[w8.heap.size]? = some (.cells (mvs b) 1 (0, 0))) := heap_alloc_new _ _
  replace HS := Lib.hid (HS.out.below (bel_alloc w8 (.cells (mvs b) 1)))
  replace HE := Lib.hid (HE.out.below HX.out)
  obtain ⟨w9, hw9⟩ : ∃ w9, w8.alloc (.cells (mvs b) 1) = w9 := ⟨_, rfl⟩
  obtain ⟨g, hg⟩ : ∃ g, w8.heap.size = g := ⟨_, rfl⟩
  rw [hw9] at HX HR HS HE ⊢
  rw [hg] at HR ⊢
  clear hw9 hg
  go_wp2_with fail
  refine (Cf.within_any _ _ _ _).mono ?_
  rintro r w' ⟨rfl, rfl⟩
  rw [H3.out]
  go_wp2_with fail
  refine (demand_yes _).mono ?_
  rintro r w' ⟨rfl, rfl⟩
  have hj0 : (0 : Int) ≤ (j : Int) := by omega
  have hj1 : (j : Int) < 8 := by omega
  have hc : w9.cell? ⟨g, j, none⟩ = some (.func (.func f) #[.pointer (some ⟨b, 0, none⟩)] #[]) := (cell_of_row _ _ j _ _ (0, 0) HR.out).trans HF.out
  go_wp2_with fail
  refine (HC.out _ HX.out HS.out HE.out).mono ?_
  rintro r w10 ⟨rfl, hR⟩
  have HQ := Lib.hid hR
  clear hR
  rcases H0.out with rfl | rfl
  · go_wp2
    go_end0
    exact ⟨rfl, HQ.out⟩
  · exact ⟨rfl, rfl, HQ.out⟩
theorem in_open (b : Nat) (V : World) : (callFunc 72 #[.pointer (some ⟨b, 0, none⟩)]).run Tryd.prog V = .ok (.enter 72 #[.pointer (some ⟨b, 0, none⟩)]) V := by kernel_rfl
theorem in_fail (b : Nat) (V : World) : (callFunc 73 #[.pointer (some ⟨b, 0, none⟩)]).run Tryd.prog V = .ok (.enter 73 #[.pointer (some ⟨b, 0, none⟩)]) V := by kernel_rfl
theorem in_lend (b : Nat) (V : World) : (callFunc 74 #[.pointer (some ⟨b, 0, none⟩)]).run Tryd.prog V = .ok (.enter 74 #[.pointer (some ⟨b, 0, none⟩)]) V := by kernel_rfl
theorem in_takeBack (b : Nat) (V : World) : (callFunc 75 #[.pointer (some ⟨b, 0, none⟩)]).run Tryd.prog V = .ok (.enter 75 #[.pointer (some ⟨b, 0, none⟩)]) V := by kernel_rfl
theorem in_probe (b : Nat) (V : World) : (callFunc 76 #[.pointer (some ⟨b, 0, none⟩)]).run Tryd.prog V = .ok (.enter 76 #[.pointer (some ⟨b, 0, none⟩)]) V := by kernel_rfl
theorem in_answer (b : Nat) (V : World) : (callFunc 77 #[.pointer (some ⟨b, 0, none⟩)]).run Tryd.prog V = .ok (.enter 77 #[.pointer (some ⟨b, 0, none⟩)]) V := by kernel_rfl
theorem in_giveUp (b : Nat) (V : World) : (callFunc 78 #[.pointer (some ⟨b, 0, none⟩)]).run Tryd.prog V = .ok (.enter 78 #[.pointer (some ⟨b, 0, none⟩)]) V := by kernel_rfl
theorem in_shut (b : Nat) (V : World) : (callFunc 79 #[.pointer (some ⟨b, 0, none⟩)]).run Tryd.prog V = .ok (.enter 79 #[.pointer (some ⟨b, 0, none⟩)]) V := by kernel_rfl
end Go.Proofs.YtbmfleakldhabaaDoor.Kn
