/- The program's take: a step that may happen changes the connection, any other panics. -/
import Derived.Test.YtbmfleakldhabaaDoorKn7
import Derived.Deep.RegionHeld3
namespace Go.Proofs.YtbmfleakldhabaaDoor.Kn
open Go.RowKit Go.Deep Base Tick Rw

/-- The row of the moves. -/
def mvs (b : Nat) : Array Value := #[.func (.func 72) #[.pointer (some ⟨b, 0, none⟩)] #[], .func (.func 73) #[.pointer (some ⟨b, 0, none⟩)] #[], .func (.func 74) #[.pointer (some ⟨b, 0, none⟩)] #[], .func (.func 75) #[.pointer (some ⟨b, 0, none⟩)] #[], .func (.func 76) #[.pointer (some ⟨b, 0, none⟩)] #[], .func (.func 77) #[.pointer (some ⟨b, 0, none⟩)] #[], .func (.func 78) #[.pointer (some ⟨b, 0, none⟩)] #[], .func (.func 79) #[.pointer (some ⟨b, 0, none⟩)] #[]]

set_option maxHeartbeats 1000000 in
theorem moves_any (b : Nat) (w : World) :
    Calls Tryd.prog 67 #[.pointer (some ⟨b, 0, none⟩)] w fun e w' => e = .returned (.slice (some ⟨w.heap.size, 0, none⟩) 8 8) ∧ w' = w.alloc (.cells (mvs b) 1) := by
  have hmf : ∀ (fn : Fn) (first cap : Array Value) (w : World), (Instr.makeFunc fn first cap).run Tryd.prog w = .ok (.func fn first cap) w := fun _ _ _ _ => rfl
  go_enter Tryd.func67, Tryd.ntmps67
  go_wp2
  go_ret
  exact ⟨rfl, rfl⟩

set_option maxRecDepth 100000 in
set_option maxHeartbeats 2000000 in
theorem take_no0 (b : Nat) (k : Nat → Int) (t : Bool) (e now n : Int) (p : Addr) (w : World) (h : SC b (k 0) (k 1) (k 2) (k 3) (k 4) t now n w) (he : Er p w) (h0 : okN k t = false) :
    Calls Tryd.prog 53 #[.pointer (some ⟨b, 0, none⟩), .int .i64 e] w fun r w' => r = refused p ∧ Turns b (b + 1) w w' := by
  have HK : Hid (∀ V, Calls Tryd.prog 48 #[.agg #[.int .i64 (k 0), .int .i64 (k 1), .int .i64 (k 2), .int .i64 (k 3), .int .i64 (k 4), .bool t]] V fun e w' => e = .returned (.bool false) ∧ Below V.heap.size V w') := fun V => by have := implConnOk_any k t V; rw [h0] at this; exact this
  clear h0
  have HH : Hid (Below w.heap.size w w.drew) := (Below.refl _ _).drew
  have HS : Hid (SC b (k 0) (k 1) (k 2) (k 3) (k 4) t now n w.drew) := h.below HH.out
  have HE := Lib.hid he
  clear h he
  go_enter Tryd.func53, Tryd.ntmps53
  go_wp2_with fail
  refine wp_region_held_drew (S := SC b (k 0) (k 1) (k 2) (k 3) (k 4) t now n) (by kernel_rfl) HS.out (fun _ => ?_)
  refine wpAnyH_take (i := 0) (v := (.pointer (some ⟨b, 0, none⟩))) rfl (by kernel_rfl) (by kernel_rfl) (by kernel_rfl) (fun _ _ _ h => h) (.inl ⟨rfl, fun V hS => ?y0⟩) HS.out ?_
  case y0 =>
    clear hS
    go_simp
  go_simp
  refine wpAnyH_take (i := 1) (v := (.pointer (some ⟨b, 0, none⟩))) rfl (by kernel_rfl) (by kernel_rfl) (by kernel_rfl) (fun _ _ _ h => h) (.inl ⟨rfl, fun V hS => ?y0⟩) HS.out ?_
  case y0 =>
    clear hS
    go_simp
  go_simp
  refine wpAnyH_take (i := 2) (v := (.pointer (some ⟨b, 0, none⟩))) rfl (by kernel_rfl) (by kernel_rfl) (by kernel_rfl) (fun _ _ _ h => h) (.inl ⟨rfl, fun V hS => ?y0⟩) HS.out ?_
  case y0 =>
    clear hS
    go_simp
  go_simp
  refine wpAnyH_take (i := 3) (v := (.agg #[.int .i64 (k 0), .int .i64 (k 1), .int .i64 (k 2), .int .i64 (k 3), .int .i64 (k 4), .bool t])) rfl (by kernel_rfl) (by kernel_rfl) (by kernel_rfl) (fun _ _ _ h => h) (.inl ⟨rfl, fun V hS => ?y0⟩) HS.out ?_
  case y0 =>
    obtain ⟨y0, y1, y2, y3, y4, y5, y6, y7, y8⟩ := hS
    go_simp
  go_simp
  refine wpAnyH_ready (rs := ([4])) (by kernel_rfl) (by simp) (AllReadyH.cons rfl (fun J hJ => ?_) AllReadyH.nil)
  go_simp
  refine ((HK.out _)).mono ?_
  rintro r w8 ⟨rfl, b8⟩
  replace HH := Lib.hid (bel_trans HH.out b8)
  replace HS := Lib.hid (HS.out.below b8)
  clear b8
  refine hJ.out _ _ HS.out (fun _ => ?_)
  clear hJ J
  go_simp
  skip
  refine wpAnyH_take (i := 5) (v := (.bool false)) rfl (by kernel_rfl) (by kernel_rfl) (by kernel_rfl) (fun _ _ _ h => h) (.inl ⟨rfl, fun V hS => ?y0⟩) HS.out ?_
  case y0 =>
    clear hS
    go_simp
  go_simp
  refine wpAnyH_take (i := 6) (v := undef) rfl (by kernel_rfl) (by kernel_rfl) (by kernel_rfl) (fun _ _ _ h => h) (.inr ⟨rfl, rfl⟩) HS.out ?_
  go_simp
  refine wpAnyH_take (i := 7) (v := undef) rfl (by kernel_rfl) (by kernel_rfl) (by kernel_rfl) (fun _ _ _ h => h) (.inr ⟨rfl, rfl⟩) HS.out ?_
  go_simp
  refine wpAnyH_take (i := 8) (v := undef) rfl (by kernel_rfl) (by kernel_rfl) (by kernel_rfl) (fun _ _ _ h => h) (.inr ⟨rfl, rfl⟩) HS.out ?_
  go_simp
  refine wpAnyH_take (i := 9) (v := undef) rfl (by kernel_rfl) (by kernel_rfl) (by kernel_rfl) (fun _ _ _ h => h) (.inr ⟨rfl, rfl⟩) HS.out ?_
  go_simp
  refine wpAnyH_take (i := 10) (v := undef) rfl (by kernel_rfl) (by kernel_rfl) (by kernel_rfl) (fun _ _ _ h => h) (.inr ⟨rfl, rfl⟩) HS.out ?_
  go_simp
  refine wpAnyH_take (i := 11) (v := (.bool false)) rfl (by kernel_rfl) (by kernel_rfl) (by kernel_rfl) (fun _ _ _ h => h) (.inl ⟨rfl, fun V hS => ?y0⟩) HS.out ?_
  case y0 =>
    clear hS
    go_simp
  go_simp
  refine wpAnyH_take (i := 12) (v := (.bool false)) rfl (by kernel_rfl) (by kernel_rfl) (by kernel_rfl) (fun _ _ _ h => h) (.inl ⟨rfl, fun V hS => ?y0⟩) HS.out ?_
  case y0 =>
    clear hS
    go_simp
  go_simp
  refine wpAnyH_take (i := 13) (v := undef) rfl (by kernel_rfl) (by kernel_rfl) (by kernel_rfl) (fun _ _ _ h => h) (.inr ⟨rfl, rfl⟩) HS.out ?_
  go_simp
  refine wpAnyH_take (i := 14) (v := undef) rfl (by kernel_rfl) (by kernel_rfl) (by kernel_rfl) (fun _ _ _ h => h) (.inr ⟨rfl, rfl⟩) HS.out ?_
  go_simp
  refine wpAnyH_take (i := 15) (v := undef) rfl (by kernel_rfl) (by kernel_rfl) (by kernel_rfl) (fun _ _ _ h => h) (.inr ⟨rfl, rfl⟩) HS.out ?_
  go_simp
  refine wpAnyH_take (i := 16) (v := undef) rfl (by kernel_rfl) (by kernel_rfl) (by kernel_rfl) (fun _ _ _ h => h) (.inr ⟨rfl, rfl⟩) HS.out ?_
  go_simp
  refine wpAnyH_take (i := 17) (v := undef) rfl (by kernel_rfl) (by kernel_rfl) (by kernel_rfl) (fun _ _ _ h => h) (.inr ⟨rfl, rfl⟩) HS.out ?_
  go_simp
  refine wpAnyH_take (i := 18) (v := undef) rfl (by kernel_rfl) (by kernel_rfl) (by kernel_rfl) (fun _ _ _ h => h) (.inr ⟨rfl, rfl⟩) HS.out ?_
  go_simp
  refine wpAnyH_take (i := 19) (v := undef) rfl (by kernel_rfl) (by kernel_rfl) (by kernel_rfl) (fun _ _ _ h => h) (.inr ⟨rfl, rfl⟩) HS.out ?_
  go_simp
  refine wpAnyH_take (i := 20) (v := undef) rfl (by kernel_rfl) (by kernel_rfl) (by kernel_rfl) (fun _ _ _ h => h) (.inr ⟨rfl, rfl⟩) HS.out ?_
  go_simp
  refine wpAnyH_take (i := 21) (v := undef) rfl (by kernel_rfl) (by kernel_rfl) (by kernel_rfl) (fun _ _ _ h => h) (.inr ⟨rfl, rfl⟩) HS.out ?_
  go_simp
  refine wpAnyH_take (i := 22) (v := undef) rfl (by kernel_rfl) (by kernel_rfl) (by kernel_rfl) (fun _ _ _ h => h) (.inr ⟨rfl, rfl⟩) HS.out ?_
  go_simp
  refine wpAnyH_take (i := 23) (v := (.bool false)) rfl (by kernel_rfl) (by kernel_rfl) (by kernel_rfl) (fun _ _ _ h => h) (.inl ⟨rfl, fun V hS => ?y0⟩) HS.out ?_
  case y0 =>
    clear hS
    go_simp
  go_simp
  refine wpAnyH_ready (rs := [24]) (by kernel_rfl) (by simp) (AllReadyH.cons rfl (fun J hJ => ?_) AllReadyH.nil)
  go_simp
  refine (demand_no p _ (HE.out.below HH.out)).mono ?_
  rintro r w8 ⟨rfl, rfl⟩
  exact ⟨rfl, rfl, Turns.of_below HH.out⟩

set_option maxRecDepth 100000 in
set_option maxHeartbeats 2000000 in
theorem take_no1 (b : Nat) (k : Nat → Int) (t : Bool) (e now n : Int) (p : Addr) (w : World) (h : SC b (k 0) (k 1) (k 2) (k 3) (k 4) t now n w) (he : Er p w) (h0 : okN k t = true) (h1 : isT now = false) :
    Calls Tryd.prog 53 #[.pointer (some ⟨b, 0, none⟩), .int .i64 e] w fun r w' => r = refused p ∧ Turns b (b + 1) w w' := by
  have HK : Hid (∀ V, Calls Tryd.prog 48 #[.agg #[.int .i64 (k 0), .int .i64 (k 1), .int .i64 (k 2), .int .i64 (k 3), .int .i64 (k 4), .bool t]] V fun e w' => e = .returned (.bool true) ∧ Below V.heap.size V w') := fun V => by have := implConnOk_any k t V; rw [h0] at this; exact this
  have HT : Hid (∀ V, Calls Tryd.prog 55 #[.int .i64 now] V fun e w' => e = .returned (.bool false) ∧ Below V.heap.size V w') := fun V => by have := implTickOk_any now V; rw [h1] at this; exact this
  clear h0 h1
  have HH : Hid (Below w.heap.size w w.drew) := (Below.refl _ _).drew
  have HS : Hid (SC b (k 0) (k 1) (k 2) (k 3) (k 4) t now n w.drew) := h.below HH.out
  have HE := Lib.hid he
  clear h he
  go_enter Tryd.func53, Tryd.ntmps53
  go_wp2_with fail
  refine wp_region_held_drew (S := SC b (k 0) (k 1) (k 2) (k 3) (k 4) t now n) (by kernel_rfl) HS.out (fun _ => ?_)
  refine wpAnyH_take (i := 0) (v := (.pointer (some ⟨b, 0, none⟩))) rfl (by kernel_rfl) (by kernel_rfl) (by kernel_rfl) (fun _ _ _ h => h) (.inl ⟨rfl, fun V hS => ?y0⟩) HS.out ?_
  case y0 =>
    clear hS
    go_simp
  go_simp
  refine wpAnyH_take (i := 1) (v := (.pointer (some ⟨b, 0, none⟩))) rfl (by kernel_rfl) (by kernel_rfl) (by kernel_rfl) (fun _ _ _ h => h) (.inl ⟨rfl, fun V hS => ?y0⟩) HS.out ?_
  case y0 =>
    clear hS
    go_simp
  go_simp
  refine wpAnyH_take (i := 2) (v := (.pointer (some ⟨b, 0, none⟩))) rfl (by kernel_rfl) (by kernel_rfl) (by kernel_rfl) (fun _ _ _ h => h) (.inl ⟨rfl, fun V hS => ?y0⟩) HS.out ?_
  case y0 =>
    clear hS
    go_simp
  go_simp
  refine wpAnyH_take (i := 3) (v := (.agg #[.int .i64 (k 0), .int .i64 (k 1), .int .i64 (k 2), .int .i64 (k 3), .int .i64 (k 4), .bool t])) rfl (by kernel_rfl) (by kernel_rfl) (by kernel_rfl) (fun _ _ _ h => h) (.inl ⟨rfl, fun V hS => ?y0⟩) HS.out ?_
  case y0 =>
    obtain ⟨y0, y1, y2, y3, y4, y5, y6, y7, y8⟩ := hS
    go_simp
  go_simp
  refine wpAnyH_ready (rs := ([4])) (by kernel_rfl) (by simp) (AllReadyH.cons rfl (fun J hJ => ?_) AllReadyH.nil)
  go_simp
  refine ((HK.out _)).mono ?_
  rintro r w8 ⟨rfl, b8⟩
  replace HH := Lib.hid (bel_trans HH.out b8)
  replace HS := Lib.hid (HS.out.below b8)
  clear b8
  refine hJ.out _ _ HS.out (fun _ => ?_)
  clear hJ J
  go_simp
  skip
  refine wpAnyH_take (i := 5) (v := (.bool true)) rfl (by kernel_rfl) (by kernel_rfl) (by kernel_rfl) (fun _ _ _ h => h) (.inl ⟨rfl, fun V hS => ?y0⟩) HS.out ?_
  case y0 =>
    clear hS
    go_simp
  go_simp
  refine wpAnyH_take (i := 6) (v := (.pointer (some ⟨b, 0, none⟩))) rfl (by kernel_rfl) (by kernel_rfl) (by kernel_rfl) (fun _ _ _ h => h) (.inl ⟨rfl, fun V hS => ?y0⟩) HS.out ?_
  case y0 =>
    clear hS
    go_simp
  go_simp
  refine wpAnyH_take (i := 7) (v := (.pointer (some ⟨b, 0, none⟩))) rfl (by kernel_rfl) (by kernel_rfl) (by kernel_rfl) (fun _ _ _ h => h) (.inl ⟨rfl, fun V hS => ?y0⟩) HS.out ?_
  case y0 =>
    clear hS
    go_simp
  go_simp
  refine wpAnyH_take (i := 8) (v := (.pointer (some ⟨b, 6, none⟩))) rfl (by kernel_rfl) (by kernel_rfl) (by kernel_rfl) (fun _ _ _ h => h) (.inl ⟨rfl, fun V hS => ?y0⟩) HS.out ?_
  case y0 =>
    clear hS
    go_simp
  go_simp
  refine wpAnyH_take (i := 9) (v := (.int .i64 now)) rfl (by kernel_rfl) (by kernel_rfl) (by kernel_rfl) (fun _ _ _ h => h) (.inl ⟨rfl, fun V hS => ?y0⟩) HS.out ?_
  case y0 =>
    obtain ⟨y0, y1, y2, y3, y4, y5, y6, y7, y8⟩ := hS
    go_simp
  go_simp
  refine wpAnyH_ready (rs := ([10])) (by kernel_rfl) (by simp) (AllReadyH.cons rfl (fun J hJ => ?_) AllReadyH.nil)
  go_simp
  refine ((HT.out _)).mono ?_
  rintro r w8 ⟨rfl, b8⟩
  replace HH := Lib.hid (bel_trans HH.out b8)
  replace HS := Lib.hid (HS.out.below b8)
  clear b8
  refine hJ.out _ _ HS.out (fun _ => ?_)
  clear hJ J
  go_simp
  skip
  refine wpAnyH_take (i := 11) (v := (.bool false)) rfl (by kernel_rfl) (by kernel_rfl) (by kernel_rfl) (fun _ _ _ h => h) (.inl ⟨rfl, fun V hS => ?y0⟩) HS.out ?_
  case y0 =>
    clear hS
    go_simp
  go_simp
  refine wpAnyH_take (i := 12) (v := (.bool false)) rfl (by kernel_rfl) (by kernel_rfl) (by kernel_rfl) (fun _ _ _ h => h) (.inl ⟨rfl, fun V hS => ?y0⟩) HS.out ?_
  case y0 =>
    clear hS
    go_simp
  go_simp
  refine wpAnyH_take (i := 13) (v := undef) rfl (by kernel_rfl) (by kernel_rfl) (by kernel_rfl) (fun _ _ _ h => h) (.inr ⟨rfl, rfl⟩) HS.out ?_
  go_simp
  refine wpAnyH_take (i := 14) (v := undef) rfl (by kernel_rfl) (by kernel_rfl) (by kernel_rfl) (fun _ _ _ h => h) (.inr ⟨rfl, rfl⟩) HS.out ?_
  go_simp
  refine wpAnyH_take (i := 15) (v := undef) rfl (by kernel_rfl) (by kernel_rfl) (by kernel_rfl) (fun _ _ _ h => h) (.inr ⟨rfl, rfl⟩) HS.out ?_
  go_simp
  refine wpAnyH_take (i := 16) (v := undef) rfl (by kernel_rfl) (by kernel_rfl) (by kernel_rfl) (fun _ _ _ h => h) (.inr ⟨rfl, rfl⟩) HS.out ?_
  go_simp
  refine wpAnyH_take (i := 17) (v := undef) rfl (by kernel_rfl) (by kernel_rfl) (by kernel_rfl) (fun _ _ _ h => h) (.inr ⟨rfl, rfl⟩) HS.out ?_
  go_simp
  refine wpAnyH_take (i := 18) (v := undef) rfl (by kernel_rfl) (by kernel_rfl) (by kernel_rfl) (fun _ _ _ h => h) (.inr ⟨rfl, rfl⟩) HS.out ?_
  go_simp
  refine wpAnyH_take (i := 19) (v := undef) rfl (by kernel_rfl) (by kernel_rfl) (by kernel_rfl) (fun _ _ _ h => h) (.inr ⟨rfl, rfl⟩) HS.out ?_
  go_simp
  refine wpAnyH_take (i := 20) (v := undef) rfl (by kernel_rfl) (by kernel_rfl) (by kernel_rfl) (fun _ _ _ h => h) (.inr ⟨rfl, rfl⟩) HS.out ?_
  go_simp
  refine wpAnyH_take (i := 21) (v := undef) rfl (by kernel_rfl) (by kernel_rfl) (by kernel_rfl) (fun _ _ _ h => h) (.inr ⟨rfl, rfl⟩) HS.out ?_
  go_simp
  refine wpAnyH_take (i := 22) (v := undef) rfl (by kernel_rfl) (by kernel_rfl) (by kernel_rfl) (fun _ _ _ h => h) (.inr ⟨rfl, rfl⟩) HS.out ?_
  go_simp
  refine wpAnyH_take (i := 23) (v := (.bool false)) rfl (by kernel_rfl) (by kernel_rfl) (by kernel_rfl) (fun _ _ _ h => h) (.inl ⟨rfl, fun V hS => ?y0⟩) HS.out ?_
  case y0 =>
    clear hS
    go_simp
  go_simp
  refine wpAnyH_ready (rs := [24]) (by kernel_rfl) (by simp) (AllReadyH.cons rfl (fun J hJ => ?_) AllReadyH.nil)
  go_simp
  refine (demand_no p _ (HE.out.below HH.out)).mono ?_
  rintro r w8 ⟨rfl, rfl⟩
  exact ⟨rfl, rfl, Turns.of_below HH.out⟩

set_option maxRecDepth 100000 in
set_option maxHeartbeats 2000000 in
theorem take_no2 (b : Nat) (k : Nat → Int) (t : Bool) (e now n : Int) (p : Addr) (w : World) (h : SC b (k 0) (k 1) (k 2) (k 3) (k 4) t now n w) (he : Er p w) (h0 : okN k t = true) (h1 : isT now = true) (h2 : ¬ k 3 ≤ now) :
    Calls Tryd.prog 53 #[.pointer (some ⟨b, 0, none⟩), .int .i64 e] w fun r w' => r = refused p ∧ Turns b (b + 1) w w' := by
  have HK : Hid (∀ V, Calls Tryd.prog 48 #[.agg #[.int .i64 (k 0), .int .i64 (k 1), .int .i64 (k 2), .int .i64 (k 3), .int .i64 (k 4), .bool t]] V fun e w' => e = .returned (.bool true) ∧ Below V.heap.size V w') := fun V => by have := implConnOk_any k t V; rw [h0] at this; exact this
  have HT : Hid (∀ V, Calls Tryd.prog 55 #[.int .i64 now] V fun e w' => e = .returned (.bool true) ∧ Below V.heap.size V w') := fun V => by have := implTickOk_any now V; rw [h1] at this; exact this
  have h2b : decide (k 3 ≤ now) = false := decide_eq_false h2
  clear h0 h1 h2
  have HH : Hid (Below w.heap.size w w.drew) := (Below.refl _ _).drew
  have HS : Hid (SC b (k 0) (k 1) (k 2) (k 3) (k 4) t now n w.drew) := h.below HH.out
  have HE := Lib.hid he
  clear h he
  go_enter Tryd.func53, Tryd.ntmps53
  go_wp2_with fail
  refine wp_region_held_drew (S := SC b (k 0) (k 1) (k 2) (k 3) (k 4) t now n) (by kernel_rfl) HS.out (fun _ => ?_)
  refine wpAnyH_take (i := 0) (v := (.pointer (some ⟨b, 0, none⟩))) rfl (by kernel_rfl) (by kernel_rfl) (by kernel_rfl) (fun _ _ _ h => h) (.inl ⟨rfl, fun V hS => ?y0⟩) HS.out ?_
  case y0 =>
    clear hS
    go_simp
  go_simp
  refine wpAnyH_take (i := 1) (v := (.pointer (some ⟨b, 0, none⟩))) rfl (by kernel_rfl) (by kernel_rfl) (by kernel_rfl) (fun _ _ _ h => h) (.inl ⟨rfl, fun V hS => ?y0⟩) HS.out ?_
  case y0 =>
    clear hS
    go_simp
  go_simp
  refine wpAnyH_take (i := 2) (v := (.pointer (some ⟨b, 0, none⟩))) rfl (by kernel_rfl) (by kernel_rfl) (by kernel_rfl) (fun _ _ _ h => h) (.inl ⟨rfl, fun V hS => ?y0⟩) HS.out ?_
  case y0 =>
    clear hS
    go_simp
  go_simp
  refine wpAnyH_take (i := 3) (v := (.agg #[.int .i64 (k 0), .int .i64 (k 1), .int .i64 (k 2), .int .i64 (k 3), .int .i64 (k 4), .bool t])) rfl (by kernel_rfl) (by kernel_rfl) (by kernel_rfl) (fun _ _ _ h => h) (.inl ⟨rfl, fun V hS => ?y0⟩) HS.out ?_
  case y0 =>
    obtain ⟨y0, y1, y2, y3, y4, y5, y6, y7, y8⟩ := hS
    go_simp
  go_simp
  refine wpAnyH_ready (rs := ([4])) (by kernel_rfl) (by simp) (AllReadyH.cons rfl (fun J hJ => ?_) AllReadyH.nil)
  go_simp
  refine ((HK.out _)).mono ?_
  rintro r w8 ⟨rfl, b8⟩
  replace HH := Lib.hid (bel_trans HH.out b8)
  replace HS := Lib.hid (HS.out.below b8)
  clear b8
  refine hJ.out _ _ HS.out (fun _ => ?_)
  clear hJ J
  go_simp
  skip
  refine wpAnyH_take (i := 5) (v := (.bool true)) rfl (by kernel_rfl) (by kernel_rfl) (by kernel_rfl) (fun _ _ _ h => h) (.inl ⟨rfl, fun V hS => ?y0⟩) HS.out ?_
  case y0 =>
    clear hS
    go_simp
  go_simp
  refine wpAnyH_take (i := 6) (v := (.pointer (some ⟨b, 0, none⟩))) rfl (by kernel_rfl) (by kernel_rfl) (by kernel_rfl) (fun _ _ _ h => h) (.inl ⟨rfl, fun V hS => ?y0⟩) HS.out ?_
  case y0 =>
    clear hS
    go_simp
  go_simp
  refine wpAnyH_take (i := 7) (v := (.pointer (some ⟨b, 0, none⟩))) rfl (by kernel_rfl) (by kernel_rfl) (by kernel_rfl) (fun _ _ _ h => h) (.inl ⟨rfl, fun V hS => ?y0⟩) HS.out ?_
  case y0 =>
    clear hS
    go_simp
  go_simp
  refine wpAnyH_take (i := 8) (v := (.pointer (some ⟨b, 6, none⟩))) rfl (by kernel_rfl) (by kernel_rfl) (by kernel_rfl) (fun _ _ _ h => h) (.inl ⟨rfl, fun V hS => ?y0⟩) HS.out ?_
  case y0 =>
    clear hS
    go_simp
  go_simp
  refine wpAnyH_take (i := 9) (v := (.int .i64 now)) rfl (by kernel_rfl) (by kernel_rfl) (by kernel_rfl) (fun _ _ _ h => h) (.inl ⟨rfl, fun V hS => ?y0⟩) HS.out ?_
  case y0 =>
    obtain ⟨y0, y1, y2, y3, y4, y5, y6, y7, y8⟩ := hS
    go_simp
  go_simp
  refine wpAnyH_ready (rs := ([10])) (by kernel_rfl) (by simp) (AllReadyH.cons rfl (fun J hJ => ?_) AllReadyH.nil)
  go_simp
  refine ((HT.out _)).mono ?_
  rintro r w8 ⟨rfl, b8⟩
  replace HH := Lib.hid (bel_trans HH.out b8)
  replace HS := Lib.hid (HS.out.below b8)
  clear b8
  refine hJ.out _ _ HS.out (fun _ => ?_)
  clear hJ J
  go_simp
  skip
  refine wpAnyH_take (i := 11) (v := (.bool true)) rfl (by kernel_rfl) (by kernel_rfl) (by kernel_rfl) (fun _ _ _ h => h) (.inl ⟨rfl, fun V hS => ?y0⟩) HS.out ?_
  case y0 =>
    clear hS
    go_simp
  go_simp
  refine wpAnyH_take (i := 12) (v := (.bool true)) rfl (by kernel_rfl) (by kernel_rfl) (by kernel_rfl) (fun _ _ _ h => h) (.inl ⟨rfl, fun V hS => ?y0⟩) HS.out ?_
  case y0 =>
    clear hS
    go_simp
  go_simp
  refine wpAnyH_take (i := 13) (v := (.pointer (some ⟨b, 0, none⟩))) rfl (by kernel_rfl) (by kernel_rfl) (by kernel_rfl) (fun _ _ _ h => h) (.inl ⟨rfl, fun V hS => ?y0⟩) HS.out ?_
  case y0 =>
    clear hS
    go_simp
  go_simp
  refine wpAnyH_take (i := 14) (v := (.pointer (some ⟨b, 0, none⟩))) rfl (by kernel_rfl) (by kernel_rfl) (by kernel_rfl) (fun _ _ _ h => h) (.inl ⟨rfl, fun V hS => ?y0⟩) HS.out ?_
  case y0 =>
    clear hS
    go_simp
  go_simp
  refine wpAnyH_take (i := 15) (v := (.pointer (some ⟨b, 6, none⟩))) rfl (by kernel_rfl) (by kernel_rfl) (by kernel_rfl) (fun _ _ _ h => h) (.inl ⟨rfl, fun V hS => ?y0⟩) HS.out ?_
  case y0 =>
    clear hS
    go_simp
  go_simp
  refine wpAnyH_take (i := 16) (v := (.int .i64 now)) rfl (by kernel_rfl) (by kernel_rfl) (by kernel_rfl) (fun _ _ _ h => h) (.inl ⟨rfl, fun V hS => ?y0⟩) HS.out ?_
  case y0 =>
    obtain ⟨y0, y1, y2, y3, y4, y5, y6, y7, y8⟩ := hS
    go_simp
  go_simp
  refine wpAnyH_take (i := 17) (v := (.pointer (some ⟨b, 0, none⟩))) rfl (by kernel_rfl) (by kernel_rfl) (by kernel_rfl) (fun _ _ _ h => h) (.inl ⟨rfl, fun V hS => ?y0⟩) HS.out ?_
  case y0 =>
    clear hS
    go_simp
  go_simp
  refine wpAnyH_take (i := 18) (v := (.pointer (some ⟨b, 0, none⟩))) rfl (by kernel_rfl) (by kernel_rfl) (by kernel_rfl) (fun _ _ _ h => h) (.inl ⟨rfl, fun V hS => ?y0⟩) HS.out ?_
  case y0 =>
    clear hS
    go_simp
  go_simp
  refine wpAnyH_take (i := 19) (v := (.pointer (some ⟨b, 0, none⟩))) rfl (by kernel_rfl) (by kernel_rfl) (by kernel_rfl) (fun _ _ _ h => h) (.inl ⟨rfl, fun V hS => ?y0⟩) HS.out ?_
  case y0 =>
    clear hS
    go_simp
  go_simp
  refine wpAnyH_take (i := 20) (v := (.pointer (some ⟨b, 3, none⟩))) rfl (by kernel_rfl) (by kernel_rfl) (by kernel_rfl) (fun _ _ _ h => h) (.inl ⟨rfl, fun V hS => ?y0⟩) HS.out ?_
  case y0 =>
    clear hS
    go_simp
  go_simp
  refine wpAnyH_take (i := 21) (v := (.int .i64 (k 3))) rfl (by kernel_rfl) (by kernel_rfl) (by kernel_rfl) (fun _ _ _ h => h) (.inl ⟨rfl, fun V hS => ?y0⟩) HS.out ?_
  case y0 =>
    obtain ⟨y0, y1, y2, y3, y4, y5, y6, y7, y8⟩ := hS
    go_simp
  go_simp
  refine wpAnyH_take (i := 22) (v := (.bool false)) rfl (by kernel_rfl) (by kernel_rfl) (by kernel_rfl) (fun _ _ _ h => h) (.inl ⟨rfl, fun V hS => ?y0⟩) HS.out ?_
  case y0 =>
    clear hS
    go_simp
  go_simp
  refine wpAnyH_take (i := 23) (v := (.bool false)) rfl (by kernel_rfl) (by kernel_rfl) (by kernel_rfl) (fun _ _ _ h => h) (.inl ⟨rfl, fun V hS => ?y0⟩) HS.out ?_
  case y0 =>
    clear hS
    go_simp
  go_simp
  skip
  refine wpAnyH_ready (rs := [24]) (by kernel_rfl) (by simp) (AllReadyH.cons rfl (fun J hJ => ?_) AllReadyH.nil)
  go_simp
  refine (demand_no p _ (HE.out.below HH.out)).mono ?_
  rintro r w8 ⟨rfl, rfl⟩
  exact ⟨rfl, rfl, Turns.of_below HH.out⟩
end Go.Proofs.YtbmfleakldhabaaDoor.Kn
