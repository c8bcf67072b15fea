/- The eight moves of the program's step: each changes the connection or refuses it. -/
import Derived.Test.YtbmfleakldhabaaDoorKn6
namespace Go.Proofs.YtbmfleakldhabaaDoor.Kn
open Go.RowKit Go.Deep Base Tick Rw

theorem SC.born {b : Nat} {a0 a1 a2 a3 a4 : Int} {t : Bool} {now n : Int} {w : World} (h : SC b a0 a1 a2 a3 a4 t now n w) (x : Int) :
    SC b a0 a1 x a3 a4 t now n (w.setCell ⟨b, 2, none⟩ (.int .i64 x)) ∧ Turns b (b + 1) w (w.setCell ⟨b, 2, none⟩ (.int .i64 x)) := by
  obtain ⟨h0, h1, h2, h3, h4, h5, h6, h7, h8⟩ := h
  refine ⟨⟨?_, ?_, ?_, ?_, ?_, ?_, ?_, ?_, ?_⟩, ?_⟩
  iterate 8 simp [go_sem, h0, h1, h2, h3, h4, h5, h6, h7]
  · intro j
    simp only [World.frozen?_setCell]
    exact h8 j
  · refine Turns.setCell ?_ (by show b ≤ b; exact Nat.le_refl _) (by show b < b + 1; omega) _
    exact Turns.of_below (Below.refl _ _)

theorem SC.lent {b : Nat} {a0 a1 a2 a3 a4 : Int} {t : Bool} {now n : Int} {w : World} (h : SC b a0 a1 a2 a3 a4 t now n w) (x : Int) :
    SC b a0 a1 a2 a3 x t now n (w.setCell ⟨b, 4, none⟩ (.int .i64 x)) ∧ Turns b (b + 1) w (w.setCell ⟨b, 4, none⟩ (.int .i64 x)) := by
  obtain ⟨h0, h1, h2, h3, h4, h5, h6, h7, h8⟩ := h
  refine ⟨⟨?_, ?_, ?_, ?_, ?_, ?_, ?_, ?_, ?_⟩, ?_⟩
  iterate 8 simp [go_sem, h0, h1, h2, h3, h4, h5, h6, h7]
  · intro j
    simp only [World.frozen?_setCell]
    exact h8 j
  · refine Turns.setCell ?_ (by show b ≤ b; exact Nat.le_refl _) (by show b < b + 1; omega) _
    exact Turns.of_below (Below.refl _ _)

set_option maxHeartbeats 1000000 in
theorem open_yes (b : Nat) (a0 a2 a3 a4 : Int) (t : Bool) (now n : Int) (w : World) (h : SC b a0 0 a2 a3 a4 t now n w) :
    Calls Tryd.prog 72 #[.pointer (some ⟨b, 0, none⟩)] w fun e w' => e = .returned (.tuple #[]) ∧ SC b a0 1 now now 0 false now n w' ∧ Turns b (b + 1) w w' := by
  have HS := Lib.hid h
  clear h
  go_enter Tryd.func72, Tryd.ntmps72
  go_wp2_with fail
  refine (move_yes b a0 0 a2 a3 a4 t now n 1 _ HS.out).mono ?_
  rintro e w1 ⟨rfl, hs, ht⟩
  have HB := Lib.hid (hs.born now)
  have HT := Lib.hid ht
  obtain ⟨h0, h1, h2, h3, h4, h5, h6, h7, h8⟩ := hs
  clear ht
  go_wp2
  go_end0
  exact ⟨rfl, HB.out.1, HT.out.trans HB.out.2⟩

theorem open_no (b : Nat) (a0 a1 a2 a3 a4 : Int) (t : Bool) (now n : Int) (p : Addr) (w : World) (h : SC b a0 a1 a2 a3 a4 t now n w) (he : Er p w) (hn : ¬ a1 = 0) :
    Calls Tryd.prog 72 #[.pointer (some ⟨b, 0, none⟩)] w fun e w' => e = refused p ∧ w = w' := by
  have HS := Lib.hid h
  have HE := Lib.hid he
  clear h he
  go_enter Tryd.func72, Tryd.ntmps72
  go_wp2_with fail
  refine (move_no b a0 a1 a2 a3 a4 t now n 0 1 p _ HS.out HE.out hn).mono ?_
  rintro e w' ⟨rfl, rfl⟩
  exact ⟨rfl, rfl, rfl⟩

theorem fail_yes (b : Nat) (a0 a2 a3 a4 : Int) (t : Bool) (now n : Int) (w : World) (h : SC b a0 0 a2 a3 a4 t now n w) :
    Calls Tryd.prog 73 #[.pointer (some ⟨b, 0, none⟩)] w fun e w' => e = .returned (.tuple #[]) ∧ SC b a0 4 a2 now 0 false now n w' ∧ Turns b (b + 1) w w' := by
  have HS := Lib.hid h
  clear h
  go_enter Tryd.func73, Tryd.ntmps73
  go_wp2_with fail
  refine (move_yes b a0 0 a2 a3 a4 t now n 4 _ HS.out).mono ?_
  rintro e w1 ⟨rfl, hs, ht⟩
  have HQ := Lib.hid (And.intro hs ht)
  clear hs ht
  go_wp2
  go_end0
  exact ⟨rfl, HQ.out⟩

theorem fail_no (b : Nat) (a0 a1 a2 a3 a4 : Int) (t : Bool) (now n : Int) (p : Addr) (w : World) (h : SC b a0 a1 a2 a3 a4 t now n w) (he : Er p w) (hn : ¬ a1 = 0) :
    Calls Tryd.prog 73 #[.pointer (some ⟨b, 0, none⟩)] w fun e w' => e = refused p ∧ w = w' := by
  have HS := Lib.hid h
  have HE := Lib.hid he
  clear h he
  go_enter Tryd.func73, Tryd.ntmps73
  go_wp2_with fail
  refine (move_no b a0 a1 a2 a3 a4 t now n 0 4 p _ HS.out HE.out hn).mono ?_
  rintro e w' ⟨rfl, rfl⟩
  exact ⟨rfl, rfl, rfl⟩

theorem takeBack_yes (b : Nat) (a0 a2 a3 a4 : Int) (t : Bool) (now n : Int) (w : World) (h : SC b a0 3 a2 a3 a4 t now n w) :
    Calls Tryd.prog 75 #[.pointer (some ⟨b, 0, none⟩)] w fun e w' => e = .returned (.tuple #[]) ∧ SC b a0 1 a2 now 0 false now n w' ∧ Turns b (b + 1) w w' := by
  have HS := Lib.hid h
  clear h
  go_enter Tryd.func75, Tryd.ntmps75
  go_wp2_with fail
  refine (move_yes b a0 3 a2 a3 a4 t now n 1 _ HS.out).mono ?_
  rintro e w1 ⟨rfl, hs, ht⟩
  have HQ := Lib.hid (And.intro hs ht)
  clear hs ht
  go_wp2
  go_end0
  exact ⟨rfl, HQ.out⟩

theorem takeBack_no (b : Nat) (a0 a1 a2 a3 a4 : Int) (t : Bool) (now n : Int) (p : Addr) (w : World) (h : SC b a0 a1 a2 a3 a4 t now n w) (he : Er p w) (hn : ¬ a1 = 3) :
    Calls Tryd.prog 75 #[.pointer (some ⟨b, 0, none⟩)] w fun e w' => e = refused p ∧ w = w' := by
  have HS := Lib.hid h
  have HE := Lib.hid he
  clear h he
  go_enter Tryd.func75, Tryd.ntmps75
  go_wp2_with fail
  refine (move_no b a0 a1 a2 a3 a4 t now n 3 1 p _ HS.out HE.out hn).mono ?_
  rintro e w' ⟨rfl, rfl⟩
  exact ⟨rfl, rfl, rfl⟩

theorem probe_yes (b : Nat) (a0 a2 a3 a4 : Int) (t : Bool) (now n : Int) (w : World) (h : SC b a0 1 a2 a3 a4 t now n w) :
    Calls Tryd.prog 76 #[.pointer (some ⟨b, 0, none⟩)] w fun e w' => e = .returned (.tuple #[]) ∧ SC b a0 2 a2 now 0 false now n w' ∧ Turns b (b + 1) w w' := by
  have HS := Lib.hid h
  clear h
  go_enter Tryd.func76, Tryd.ntmps76
  go_wp2_with fail
  refine (move_yes b a0 1 a2 a3 a4 t now n 2 _ HS.out).mono ?_
  rintro e w1 ⟨rfl, hs, ht⟩
  have HQ := Lib.hid (And.intro hs ht)
  clear hs ht
  go_wp2
  go_end0
  exact ⟨rfl, HQ.out⟩

theorem probe_no (b : Nat) (a0 a1 a2 a3 a4 : Int) (t : Bool) (now n : Int) (p : Addr) (w : World) (h : SC b a0 a1 a2 a3 a4 t now n w) (he : Er p w) (hn : ¬ a1 = 1) :
    Calls Tryd.prog 76 #[.pointer (some ⟨b, 0, none⟩)] w fun e w' => e = refused p ∧ w = w' := by
  have HS := Lib.hid h
  have HE := Lib.hid he
  clear h he
  go_enter Tryd.func76, Tryd.ntmps76
  go_wp2_with fail
  refine (move_no b a0 a1 a2 a3 a4 t now n 1 2 p _ HS.out HE.out hn).mono ?_
  rintro e w' ⟨rfl, rfl⟩
  exact ⟨rfl, rfl, rfl⟩

theorem answer_yes (b : Nat) (a0 a2 a3 a4 : Int) (t : Bool) (now n : Int) (w : World) (h : SC b a0 2 a2 a3 a4 t now n w) :
    Calls Tryd.prog 77 #[.pointer (some ⟨b, 0, none⟩)] w fun e w' => e = .returned (.tuple #[]) ∧ SC b a0 1 a2 now 0 false now n w' ∧ Turns b (b + 1) w w' := by
  have HS := Lib.hid h
  clear h
  go_enter Tryd.func77, Tryd.ntmps77
  go_wp2_with fail
  refine (move_yes b a0 2 a2 a3 a4 t now n 1 _ HS.out).mono ?_
  rintro e w1 ⟨rfl, hs, ht⟩
  have HQ := Lib.hid (And.intro hs ht)
  clear hs ht
  go_wp2
  go_end0
  exact ⟨rfl, HQ.out⟩

theorem answer_no (b : Nat) (a0 a1 a2 a3 a4 : Int) (t : Bool) (now n : Int) (p : Addr) (w : World) (h : SC b a0 a1 a2 a3 a4 t now n w) (he : Er p w) (hn : ¬ a1 = 2) :
    Calls Tryd.prog 77 #[.pointer (some ⟨b, 0, none⟩)] w fun e w' => e = refused p ∧ w = w' := by
  have HS := Lib.hid h
  have HE := Lib.hid he
  clear h he
  go_enter Tryd.func77, Tryd.ntmps77
  go_wp2_with fail
  refine (move_no b a0 a1 a2 a3 a4 t now n 2 1 p _ HS.out HE.out hn).mono ?_
  rintro e w' ⟨rfl, rfl⟩
  exact ⟨rfl, rfl, rfl⟩

theorem giveUp_yes (b : Nat) (a0 a2 a3 a4 : Int) (t : Bool) (now n : Int) (w : World) (h : SC b a0 2 a2 a3 a4 t now n w) :
    Calls Tryd.prog 78 #[.pointer (some ⟨b, 0, none⟩)] w fun e w' => e = .returned (.tuple #[]) ∧ SC b a0 4 a2 now 0 false now n w' ∧ Turns b (b + 1) w w' := by
  have HS := Lib.hid h
  clear h
  go_enter Tryd.func78, Tryd.ntmps78
  go_wp2_with fail
  refine (move_yes b a0 2 a2 a3 a4 t now n 4 _ HS.out).mono ?_
  rintro e w1 ⟨rfl, hs, ht⟩
  have HQ := Lib.hid (And.intro hs ht)
  clear hs ht
  go_wp2
  go_end0
  exact ⟨rfl, HQ.out⟩

theorem giveUp_no (b : Nat) (a0 a1 a2 a3 a4 : Int) (t : Bool) (now n : Int) (p : Addr) (w : World) (h : SC b a0 a1 a2 a3 a4 t now n w) (he : Er p w) (hn : ¬ a1 = 2) :
    Calls Tryd.prog 78 #[.pointer (some ⟨b, 0, none⟩)] w fun e w' => e = refused p ∧ w = w' := by
  have HS := Lib.hid h
  have HE := Lib.hid he
  clear h he
  go_enter Tryd.func78, Tryd.ntmps78
  go_wp2_with fail
  refine (move_no b a0 a1 a2 a3 a4 t now n 2 4 p _ HS.out HE.out hn).mono ?_
  rintro e w' ⟨rfl, rfl⟩
  exact ⟨rfl, rfl, rfl⟩

set_option maxHeartbeats 1000000 in
theorem lend_yes (b : Nat) (a0 a2 a3 a4 : Int) (t : Bool) (now n : Int) (w : World) (h : SC b a0 1 a2 a3 a4 t now n w) (hi : inB n 1 1000000000 = true) :
    Calls Tryd.prog 74 #[.pointer (some ⟨b, 0, none⟩)] w fun e w' => e = .returned (.tuple #[]) ∧ SC b a0 3 a2 now n false now n w' ∧ Turns b (b + 1) w w' := by
  have HS := Lib.hid h
  obtain ⟨h0, h1, h2, h3, h4, h5, h6, h7, h8⟩ := h
  go_enter Tryd.func74, Tryd.ntmps74
  go_wp2_with fail
  refine (idOk_any _ _).mono ?_
  rw [hi]
  rintro e w' ⟨rfl, rfl⟩
  go_wp2_with fail
  refine (demand_yes _).mono ?_
  rintro e w' ⟨rfl, rfl⟩
  clear h0 h1 h2 h3 h4 h5 h6 h7 h8
  go_wp2_with fail
  refine (move_yes b a0 1 a2 a3 a4 t now n 3 _ HS.out).mono ?_
  rintro e w1 ⟨rfl, hs, ht⟩
  have HB := Lib.hid (hs.lent n)
  have HT := Lib.hid ht
  obtain ⟨h0, h1, h2, h3, h4, h5, h6, h7, h8⟩ := hs
  clear ht
  go_wp2
  go_end0
  exact ⟨rfl, HB.out.1, HT.out.trans HB.out.2⟩

theorem lend_no1 (b : Nat) (a0 a1 a2 a3 a4 : Int) (t : Bool) (now n : Int) (p : Addr) (w : World) (h : SC b a0 a1 a2 a3 a4 t now n w) (he : Er p w) (hi : inB n 1 1000000000 = false) :
    Calls Tryd.prog 74 #[.pointer (some ⟨b, 0, none⟩)] w fun e w' => e = refused p ∧ w = w' := by
  have HE := Lib.hid he
  clear he
  obtain ⟨h0, h1, h2, h3, h4, h5, h6, h7, h8⟩ := h
  go_enter Tryd.func74, Tryd.ntmps74
  go_wp2_with fail
  refine (idOk_any _ _).mono ?_
  rw [hi]
  rintro e w' ⟨rfl, rfl⟩
  go_wp2_with fail
  refine (demand_no p _ HE.out).mono ?_
  rintro e w' ⟨rfl, rfl⟩
  exact ⟨rfl, rfl, rfl⟩

theorem lend_no2 (b : Nat) (a0 a1 a2 a3 a4 : Int) (t : Bool) (now n : Int) (p : Addr) (w : World) (h : SC b a0 a1 a2 a3 a4 t now n w) (he : Er p w) (hi : inB n 1 1000000000 = true) (hn : ¬ a1 = 1) :
    Calls Tryd.prog 74 #[.pointer (some ⟨b, 0, none⟩)] w fun e w' => e = refused p ∧ w = w' := by
  have HS := Lib.hid h
  have HE := Lib.hid he
  clear he
  obtain ⟨h0, h1, h2, h3, h4, h5, h6, h7, h8⟩ := h
  go_enter Tryd.func74, Tryd.ntmps74
  go_wp2_with fail
  refine (idOk_any _ _).mono ?_
  rw [hi]
  rintro e w' ⟨rfl, rfl⟩
  go_wp2_with fail
  refine (demand_yes _).mono ?_
  rintro e w' ⟨rfl, rfl⟩
  clear h0 h1 h2 h3 h4 h5 h6 h7 h8
  go_wp2_with fail
  refine (move_no b a0 a1 a2 a3 a4 t now n 1 3 p _ HS.out HE.out hn).mono ?_
  rintro e w' ⟨rfl, rfl⟩
  exact ⟨rfl, rfl, rfl⟩

set_option maxHeartbeats 1000000 in
theorem shut_yes (b : Nat) (a0 a1 a2 a3 a4 : Int) (t : Bool) (now n : Int) (w : World) (h : SC b a0 a1 a2 a3 a4 t now n w) (hn : ¬ a1 = 4) :
    Calls Tryd.prog 79 #[.pointer (some ⟨b, 0, none⟩)] w fun e w' => e = .returned (.tuple #[]) ∧ SC b a0 4 a2 now 0 false now n w' ∧ Turns b (b + 1) w w' := by
  have HE := Lib.hid (h.below (Below.refl _ _).drew)
  have HE2 := Lib.hid h
  have hb : (a1 == 4) = false := by simpa using hn
  have hb2 : (a1 != 4) = true := by simpa using hn
  obtain ⟨h0, h1, h2, h3, h4, h5, h6, h7, h8⟩ := h
  go_enter Tryd.func79, Tryd.ntmps79
  go_wp2_with fail
  refine (demand_yes _).mono ?_
  rintro e w' ⟨rfl, rfl⟩
  go_wp2_with fail
  go_region_with (go_at_call 87; refine (enter_any b a0 a1 a2 a3 a4 t now n 4 now _ HE.out).mono ?_; rintro e w1 ⟨rfl, hs, ht⟩)
  all_goals
    go_end0
    exact ⟨rfl, hs, (Turns.of_below (Below.refl _ _).drew).trans ht⟩

theorem shut_no (b : Nat) (a0 a2 a3 a4 : Int) (t : Bool) (now n : Int) (p : Addr) (w : World) (h : SC b a0 4 a2 a3 a4 t now n w) (he : Er p w) :
    Calls Tryd.prog 79 #[.pointer (some ⟨b, 0, none⟩)] w fun e w' => e = refused p ∧ w = w' := by
  have HE := Lib.hid he
  clear he
  obtain ⟨h0, h1, h2, h3, h4, h5, h6, h7, h8⟩ := h
  go_enter Tryd.func79, Tryd.ntmps79
  go_wp2_with fail
  refine (demand_no p _ HE.out).mono ?_
  rintro e w' ⟨rfl, rfl⟩
  exact ⟨rfl, rfl, rfl⟩
end Go.Proofs.YtbmfleakldhabaaDoor.Kn
