/- The laws' helpers on pools: size, the comparison of two that read alike. -/
import Derived.Test.YtehdbdolhkflcaaPm1
namespace Go.Proofs.Ytehdbdolhkflcaa.Po
open Go.RowKit Go.Deep Base Ln

theorem szConnS_any (A : Option Addr) (n cap : Nat) (left : Int) (w : World) (hn : n ≤ 9223372036854775807) (h0 : 0 ≤ left) (h1 : left ≤ 1048576) :
    Calls Try.prog 38 #[.slice A n cap, .int .i64 left] w fun e w' => e = .returned (.int .i64 (if left < n then -1 else left - n)) ∧ w = w' := by
  by_cases hl : left < n
  · have hl' : ¬ 0 ≤ left - n := by omega
    go_enter Try.func38, Try.ntmps38
    go_wp2
    go_ret
    exact ⟨ret_int (by simp), rfl⟩
  · go_enter Try.func38, Try.ntmps38
    go_wp2
    go_ret
    exact ⟨ret_int (by simp), rfl⟩

def sizeP (p : Pl) : Nat := p.cs.length + (p.x.s.ss.length + p.x.ds.length) + p.b.fails.length

set_option maxRecDepth 100000 in
set_option maxHeartbeats 4000000 in
theorem szPool_any (a : PA) (p : Pl) (left : Int) (w : World) (hn : Few p 9223372036854775807) (h0 : 0 ≤ left) (h1 : left ≤ 1048576) :
    Calls Try.prog 14 #[.agg #[.int .i64 (p.c 0), .int .i64 (p.c 1), .int .i64 (p.c 2), .int .i64 (p.c 3), .int .i64 (p.c 4), .int .i64 (p.c 5), .int .i64 (p.c 6), .int .i64 (p.c 7), .int .i64 (p.c 8), .int .i64 (p.c 9), .int .i64 (p.c 10), .int .i64 (p.c 11), .int .i64 (p.c 12), .int .i64 (p.c 13), .int .i64 p.now, .int .i64 p.mode, .int .i64 p.nc, .int .i64 p.nt, .slice a.C p.cs.length a.cc, .slice a.A p.x.s.ss.length a.ca, .int .i64 p.x.s.f, .int .i64 p.x.s.l, .int .i64 p.x.s.r, .int .i64 p.x.s.c, .slice a.B p.x.ds.length a.cb, .int .i64 p.x.q, .int .i64 p.b.state, .slice a.F p.b.fails.length a.fc, .int .i64 p.b.till, .int .i64 p.fails, .int .i64 p.redial, .int .i64 p.drain], .int .i64 left] w fun e w' => (∃ z : Int, e = .returned (.int .i64 z) ∧ (z < 0 ∨ (0 ≤ z ∧ sizeP p ≤ left))) ∧ Below w.heap.size w w' := by
  have hn0 := hn.cs
  have hn1 := hn.s
  have hn2 := hn.h
  have hn3 := hn.f
  have HZ : Hid (sizeP p = p.cs.length + (p.x.s.ss.length + p.x.ds.length) + p.b.fails.length) := Lib.hid rfl
  clear hn
  go_enter Try.func14, Try.ntmps14
  go_wp2_with fail
  refine (szConnS_any _ _ _ _ _ hn0 h0 h1).mono ?_
  rintro e w1 ⟨rfl, rfl⟩
  by_cases hl : left < (p.cs.length : Int)
  · rw [if_pos hl]
    clear hl
    go_wp2
    go_ret
    exact ⟨⟨_, rfl, .inl (by omega)⟩, bel_alloc _ _⟩
  rw [if_neg hl]
  have h2 : 0 ≤ left - (p.cs.length : Int) := by omega
  have h2' : ¬ left - (p.cs.length : Int) < 0 := by omega
  have h3 : left - (p.cs.length : Int) ≤ 1048576 := by omega
  obtain ⟨m, hm⟩ : ∃ m, left - (p.cs.length : Int) = m := ⟨_, rfl⟩
  rw [hm] at h2 h2' h3 ⊢
  have Hm := Lib.hid hm
  have Hl := Lib.hid hl
  clear hm hl
  go_wp2_with fail
  refine (szLine_any a.A a.ca p.x a.B a.cb m _ hn1 hn2 h2 h3).mono ?_
  rintro e w2 ⟨rfl, b2⟩
  have K : Hid (Bx w2 w.heap.size 56 #[.int .i64 (p.c 0), .int .i64 (p.c 1), .int .i64 (p.c 2), .int .i64 (p.c 3), .int .i64 (p.c 4), .int .i64 (p.c 5), .int .i64 (p.c 6), .int .i64 (p.c 7), .int .i64 (p.c 8), .int .i64 (p.c 9), .int .i64 (p.c 10), .int .i64 (p.c 11), .int .i64 (p.c 12), .int .i64 (p.c 13), .int .i64 p.now, .int .i64 p.mode, .int .i64 p.nc, .int .i64 p.nt, .slice a.C p.cs.length a.cc, .slice a.A p.x.s.ss.length a.ca, .int .i64 p.x.s.f, .int .i64 p.x.s.l, .int .i64 p.x.s.r, .int .i64 p.x.s.c, .slice a.B p.x.ds.length a.cb, .int .i64 p.x.q, .int .i64 p.b.state, .slice a.F p.b.fails.length a.fc, .int .i64 p.b.till, .int .i64 p.fails, .int .i64 p.redial, .int .i64 p.drain]) := (Bx.new w _ _).below b2
  have W2 := Lib.hid (bel_trans (bel_alloc w _) b2)
  clear b2
  by_cases hl : m < (p.x.s.ss.length : Int) + (p.x.ds.length : Int)
  · rw [if_pos hl]
    clear hl
    go_wp2
    go_ret
    exact ⟨⟨_, rfl, .inl (by omega)⟩, W2.out⟩
  rw [if_neg hl]
  have h4 : 0 ≤ m - (p.x.s.ss.length : Int) - (p.x.ds.length : Int) := by omega
  have h4' : ¬ m - (p.x.s.ss.length : Int) - (p.x.ds.length : Int) < 0 := by omega
  have h5 : m - (p.x.s.ss.length : Int) - (p.x.ds.length : Int) ≤ 1048576 := by omega
  obtain ⟨m', hm'⟩ : ∃ m', m - (p.x.s.ss.length : Int) - (p.x.ds.length : Int) = m' := ⟨_, rfl⟩
  rw [hm'] at h4 h4' h5 ⊢
  have Hm' := Lib.hid hm'
  clear hm' hl
  obtain ⟨k26, k27, k28⟩ : w2.cell? ⟨w.heap.size, 26, none⟩ = some (.int .i64 p.b.state) ∧ w2.cell? ⟨w.heap.size, 27, none⟩ = some (.slice a.F p.b.fails.length a.fc) ∧ w2.cell? ⟨w.heap.size, 28, none⟩ = some (.int .i64 p.b.till) := ⟨K.out.cell 26, K.out.cell 27, K.out.cell 28⟩
  go_wp2_with fail
  refine (Bk.szBreaker_any a.F _ a.fc _ _ m' _ hn3 h4 h5).mono ?_
  rintro e w3 ⟨rfl, b3⟩
  have W3 := Lib.hid (bel_trans W2.out b3)
  clear b3 k26 k27 k28
  by_cases hl : m' < (p.b.fails.length : Int)
  · rw [if_pos hl]
    clear hl
    go_wp2
    go_ret
    exact ⟨⟨_, rfl, .inl (by omega)⟩, W3.out⟩
  rw [if_neg hl]
  have h6 : ¬ m' - (p.b.fails.length : Int) < 0 := by omega
  go_wp2
  go_ret
  refine ⟨⟨_, rfl, .inr ⟨by omega, ?_⟩⟩, W3.out⟩
  have e1 := Hm.out
  have e2 := Hm'.out
  rw [HZ.out]
  omega

set_option maxRecDepth 100000 in
set_option maxHeartbeats 8000000 in
theorem eqPool_same (a1 a2 : PA) (p : Pl) (R1 R2 : RP) (w : World) (hn : Few p 1048576) (h1 : PM w R1 a1 p) (h2 : PM w R2 a2 p) (hR1 : R1.In 0 w.heap.size) (hR2 : R2.In 0 w.heap.size) :
    Calls Try.prog 11 #[.agg #[.int .i64 (p.c 0), .int .i64 (p.c 1), .int .i64 (p.c 2), .int .i64 (p.c 3), .int .i64 (p.c 4), .int .i64 (p.c 5), .int .i64 (p.c 6), .int .i64 (p.c 7), .int .i64 (p.c 8), .int .i64 (p.c 9), .int .i64 (p.c 10), .int .i64 (p.c 11), .int .i64 (p.c 12), .int .i64 (p.c 13), .int .i64 p.now, .int .i64 p.mode, .int .i64 p.nc, .int .i64 p.nt, .slice a1.C p.cs.length a1.cc, .slice a1.A p.x.s.ss.length a1.ca, .int .i64 p.x.s.f, .int .i64 p.x.s.l, .int .i64 p.x.s.r, .int .i64 p.x.s.c, .slice a1.B p.x.ds.length a1.cb, .int .i64 p.x.q, .int .i64 p.b.state, .slice a1.F p.b.fails.length a1.fc, .int .i64 p.b.till, .int .i64 p.fails, .int .i64 p.redial, .int .i64 p.drain], .agg #[.int .i64 (p.c 0), .int .i64 (p.c 1), .int .i64 (p.c 2), .int .i64 (p.c 3), .int .i64 (p.c 4), .int .i64 (p.c 5), .int .i64 (p.c 6), .int .i64 (p.c 7), .int .i64 (p.c 8), .int .i64 (p.c 9), .int .i64 (p.c 10), .int .i64 (p.c 11), .int .i64 (p.c 12), .int .i64 (p.c 13), .int .i64 p.now, .int .i64 p.mode, .int .i64 p.nc, .int .i64 p.nt, .slice a2.C p.cs.length a2.cc, .slice a2.A p.x.s.ss.length a2.ca, .int .i64 p.x.s.f, .int .i64 p.x.s.l, .int .i64 p.x.s.r, .int .i64 p.x.s.c, .slice a2.B p.x.ds.length a2.cb, .int .i64 p.x.q, .int .i64 p.b.state, .slice a2.F p.b.fails.length a2.fc, .int .i64 p.b.till, .int .i64 p.fails, .int .i64 p.redial, .int .i64 p.drain]] w fun e w' => e = .returned (.bool true) ∧ Below w.heap.size w w' := by
  have H1 := Lib.hid h1
  have H2 := Lib.hid h2
  have G1 := Lib.hid hR1
  have G2 := Lib.hid hR2
  have Hn := Lib.hid hn
  clear h1 h2 hR1 hR2 hn
  have ha : ∀ o o', Below w.heap.size w ((w.alloc o).alloc o') := fun o o' => ((Below.refl _ _).alloc (Nat.le_refl _) _).alloc (by simp) _
  have Ha := Lib.hid ha
  clear ha
  go_enter Try.func11, Try.ntmps11
  go_wp2_with fail
  refine (Cf.eqConfig_same p.c _).mono ?_
  rintro e w1 ⟨rfl, b1⟩
  have K : Hid (Bx w1 w.heap.size 38 #[.int .i64 (p.c 0), .int .i64 (p.c 1), .int .i64 (p.c 2), .int .i64 (p.c 3), .int .i64 (p.c 4), .int .i64 (p.c 5), .int .i64 (p.c 6), .int .i64 (p.c 7), .int .i64 (p.c 8), .int .i64 (p.c 9), .int .i64 (p.c 10), .int .i64 (p.c 11), .int .i64 (p.c 12), .int .i64 (p.c 13), .int .i64 p.now, .int .i64 p.mode, .int .i64 p.nc, .int .i64 p.nt, .slice a1.C p.cs.length a1.cc, .slice a1.A p.x.s.ss.length a1.ca, .int .i64 p.x.s.f, .int .i64 p.x.s.l, .int .i64 p.x.s.r, .int .i64 p.x.s.c, .slice a1.B p.x.ds.length a1.cb, .int .i64 p.x.q, .int .i64 p.b.state, .slice a1.F p.b.fails.length a1.fc, .int .i64 p.b.till, .int .i64 p.fails, .int .i64 p.redial, .int .i64 p.drain]) := ((Bx.new w _ _).alloc _).below b1
  have X : Hid (Bx w1 (w.heap.size + 1) 38 #[.int .i64 (p.c 0), .int .i64 (p.c 1), .int .i64 (p.c 2), .int .i64 (p.c 3), .int .i64 (p.c 4), .int .i64 (p.c 5), .int .i64 (p.c 6), .int .i64 (p.c 7), .int .i64 (p.c 8), .int .i64 (p.c 9), .int .i64 (p.c 10), .int .i64 (p.c 11), .int .i64 (p.c 12), .int .i64 (p.c 13), .int .i64 p.now, .int .i64 p.mode, .int .i64 p.nc, .int .i64 p.nt, .slice a2.C p.cs.length a2.cc, .slice a2.A p.x.s.ss.length a2.ca, .int .i64 p.x.s.f, .int .i64 p.x.s.l, .int .i64 p.x.s.r, .int .i64 p.x.s.c, .slice a2.B p.x.ds.length a2.cb, .int .i64 p.x.q, .int .i64 p.b.state, .slice a2.F p.b.fails.length a2.fc, .int .i64 p.b.till, .int .i64 p.fails, .int .i64 p.redial, .int .i64 p.drain]) := (Bx.at_new (w.alloc _) _ (by simp) _ _).below b1
  have W1 := Lib.hid (bel_trans (Ha.out _ _) b1)
  clear b1 Ha
  obtain ⟨k14, k15, k16, k17, k18⟩ : w1.cell? ⟨w.heap.size, 14, none⟩ = some (.int .i64 p.now) ∧ w1.cell? ⟨w.heap.size, 15, none⟩ = some (.int .i64 p.mode) ∧ w1.cell? ⟨w.heap.size, 16, none⟩ = some (.int .i64 p.nc) ∧ w1.cell? ⟨w.heap.size, 17, none⟩ = some (.int .i64 p.nt) ∧ w1.cell? ⟨w.heap.size, 18, none⟩ = some (.slice a1.C p.cs.length a1.cc) := ⟨K.out.cell 14, K.out.cell 15, K.out.cell 16, K.out.cell 17, K.out.cell 18⟩
  obtain ⟨x14, x15, x16, x17, x18⟩ : w1.cell? ⟨w.heap.size + 1, 14, none⟩ = some (.int .i64 p.now) ∧ w1.cell? ⟨w.heap.size + 1, 15, none⟩ = some (.int .i64 p.mode) ∧ w1.cell? ⟨w.heap.size + 1, 16, none⟩ = some (.int .i64 p.nc) ∧ w1.cell? ⟨w.heap.size + 1, 17, none⟩ = some (.int .i64 p.nt) ∧ w1.cell? ⟨w.heap.size + 1, 18, none⟩ = some (.slice a2.C p.cs.length a2.cc) := ⟨X.out.cell 14, X.out.cell 15, X.out.cell 16, X.out.cell 17, X.out.cell 18⟩
  go_wp2_with fail
  refine (eqConnS_same a1.C a2.C _ a1.cc a2.cc _ _ _ _ p.cs _ rfl Hn.out.cs (H1.out.cs.below W1.out G1.out.c') (H2.out.cs.below W1.out G2.out.c') (Nat.le_trans G1.out.c' W1.out.size) (Nat.le_trans G2.out.c' W1.out.size)).mono ?_
  rintro e w2 ⟨rfl, b2⟩
  replace K := Lib.hid (K.out.below b2)
  replace X := Lib.hid (X.out.below b2)
  have W2 := Lib.hid (bel_trans W1.out b2)
  clear b2 k14 x14 k15 x15 k16 x16 k17 x17 k18 x18
  obtain ⟨k19, k20, k21, k22, k23, k24, k25⟩ : w2.cell? ⟨w.heap.size, 19, none⟩ = some (.slice a1.A p.x.s.ss.length a1.ca) ∧ w2.cell? ⟨w.heap.size, 20, none⟩ = some (.int .i64 p.x.s.f) ∧ w2.cell? ⟨w.heap.size, 21, none⟩ = some (.int .i64 p.x.s.l) ∧ w2.cell? ⟨w.heap.size, 22, none⟩ = some (.int .i64 p.x.s.r) ∧ w2.cell? ⟨w.heap.size, 23, none⟩ = some (.int .i64 p.x.s.c) ∧ w2.cell? ⟨w.heap.size, 24, none⟩ = some (.slice a1.B p.x.ds.length a1.cb) ∧ w2.cell? ⟨w.heap.size, 25, none⟩ = some (.int .i64 p.x.q) := ⟨K.out.cell 19, K.out.cell 20, K.out.cell 21, K.out.cell 22, K.out.cell 23, K.out.cell 24, K.out.cell 25⟩
  obtain ⟨x19, x20, x21, x22, x23, x24, x25⟩ : w2.cell? ⟨w.heap.size + 1, 19, none⟩ = some (.slice a2.A p.x.s.ss.length a2.ca) ∧ w2.cell? ⟨w.heap.size + 1, 20, none⟩ = some (.int .i64 p.x.s.f) ∧ w2.cell? ⟨w.heap.size + 1, 21, none⟩ = some (.int .i64 p.x.s.l) ∧ w2.cell? ⟨w.heap.size + 1, 22, none⟩ = some (.int .i64 p.x.s.r) ∧ w2.cell? ⟨w.heap.size + 1, 23, none⟩ = some (.int .i64 p.x.s.c) ∧ w2.cell? ⟨w.heap.size + 1, 24, none⟩ = some (.slice a2.B p.x.ds.length a2.cb) ∧ w2.cell? ⟨w.heap.size + 1, 25, none⟩ = some (.int .i64 p.x.q) := ⟨X.out.cell 19, X.out.cell 20, X.out.cell 21, X.out.cell 22, X.out.cell 23, X.out.cell 24, X.out.cell 25⟩
  go_wp2_with fail
  refine (eqLine_same a1.A a1.ca p.x a1.B a1.cb a2.A a2.ca a2.B a2.cb R1.L R2.L _ Hn.out.s Hn.out.h (H1.out.x.below W2.out G1.out.L) (H2.out.x.below W2.out G2.out.L) (G1.out.L.wide (Nat.le_refl _) W2.out.size) (G2.out.L.wide (Nat.le_refl _) W2.out.size)).mono ?_
  rintro e w3 ⟨rfl, b3⟩
  replace K := Lib.hid (K.out.below b3)
  replace X := Lib.hid (X.out.below b3)
  have W3 := Lib.hid (bel_trans W2.out b3)
  clear b3 k19 x19 k20 x20 k21 x21 k22 x22 k23 x23 k24 x24 k25 x25
  obtain ⟨k26, k27, k28⟩ : w3.cell? ⟨w.heap.size, 26, none⟩ = some (.int .i64 p.b.state) ∧ w3.cell? ⟨w.heap.size, 27, none⟩ = some (.slice a1.F p.b.fails.length a1.fc) ∧ w3.cell? ⟨w.heap.size, 28, none⟩ = some (.int .i64 p.b.till) := ⟨K.out.cell 26, K.out.cell 27, K.out.cell 28⟩
  obtain ⟨x26, x27, x28⟩ : w3.cell? ⟨w.heap.size + 1, 26, none⟩ = some (.int .i64 p.b.state) ∧ w3.cell? ⟨w.heap.size + 1, 27, none⟩ = some (.slice a2.F p.b.fails.length a2.fc) ∧ w3.cell? ⟨w.heap.size + 1, 28, none⟩ = some (.int .i64 p.b.till) := ⟨X.out.cell 26, X.out.cell 27, X.out.cell 28⟩
  go_wp2_with fail
  refine (Bk.eqBreaker_same a1.F a2.F _ a1.fc a2.fc p.b.fails _ _ _ rfl Hn.out.f (H1.out.f.below W3.out G1.out.f').ints (H2.out.f.below W3.out G2.out.f').ints).mono ?_
  rintro e w4 ⟨rfl, b4⟩
  replace K := Lib.hid (K.out.below b4)
  replace X := Lib.hid (X.out.below b4)
  have W4 := Lib.hid (bel_trans W3.out b4)
  clear b4 k26 x26 k27 x27 k28 x28
  obtain ⟨k29, k30, k31⟩ : w4.cell? ⟨w.heap.size, 29, none⟩ = some (.int .i64 p.fails) ∧ w4.cell? ⟨w.heap.size, 30, none⟩ = some (.int .i64 p.redial) ∧ w4.cell? ⟨w.heap.size, 31, none⟩ = some (.int .i64 p.drain) := ⟨K.out.cell 29, K.out.cell 30, K.out.cell 31⟩
  obtain ⟨x29, x30, x31⟩ : w4.cell? ⟨w.heap.size + 1, 29, none⟩ = some (.int .i64 p.fails) ∧ w4.cell? ⟨w.heap.size + 1, 30, none⟩ = some (.int .i64 p.redial) ∧ w4.cell? ⟨w.heap.size + 1, 31, none⟩ = some (.int .i64 p.drain) := ⟨X.out.cell 29, X.out.cell 30, X.out.cell 31⟩
  go_wp2
  go_ret
  exact ⟨rfl, W4.out⟩
end Go.Proofs.Ytehdbdolhkflcaa.Po
