/- Marks on a new pool; the law of PoolNew. -/
import Derived.Test.YtehdbdolhkflcaaPn1
import Derived.Test.YtehdbdolhkflcaaPm2
namespace Go.Proofs.Ytehdbdolhkflcaa.Po
open Go.RowKit Go.Deep Base Ln

theorem below_of_turns {lo : Nat} {w w' : World} (h : Rw.Turns lo lo w w') : Below w.heap.size w w' := ⟨h.os, h.tape, h.output, h.size, fun k hk => h.block k hk (by omega)⟩

theorem markConns_none (A : Option Addr) (cap : Nat) (k : Int) (w : World) : Calls Try.prog 32 #[.slice A 0 cap, .int .i64 k] w fun e w' => e = .returned (.int .i64 k) ∧ w = w' := by
  go_enter Try.func32, Try.ntmps32
  go_wp2
  go_loopw [1, 5] (fun t i wr => t = .int .i64 k ∧ i = .int .i64 0 ∧ w = wr) (fun _ _ _ => 0)
  case atStart => exact ⟨rfl, rfl, rfl⟩
  case round =>
    obtain ⟨rfl, rfl, rfl⟩ := hrel
    go_wp2
    go_ret
    exact ⟨rfl, rfl⟩
theorem heldConns_none (A : Option Addr) (cap : Nat) (k : Int) (w : World) : Calls Try.prog 35 #[.slice A 0 cap, .int .i64 k] w fun e w' => e = .returned (.int .i64 k) ∧ w = w' := by
  go_enter Try.func35, Try.ntmps35
  go_wp2
  go_loopw [1, 5] (fun t i wr => t = .int .i64 k ∧ i = .int .i64 0 ∧ w = wr) (fun _ _ _ => 0)
  case atStart => exact ⟨rfl, rfl, rfl⟩
  case round =>
    obtain ⟨rfl, rfl, rfl⟩ := hrel
    go_wp2
    go_ret
    exact ⟨rfl, rfl⟩

set_option maxRecDepth 100000 in
set_option maxHeartbeats 4000000 in
theorem markPool_new (a : PA) (p : Pl) (R : Rg) (k : Int) (w : World) (h0 : p.cs = []) (h1 : p.b.fails = []) (hn : p.x.s.ss.length ≤ 1048576) (hm : p.x.ds.length ≤ 1048576) (hk0 : 0 ≤ k) (hk1 : k ≤ 1000) (h : LnV w R a.A a.B p.x) (hR : R.In 0 w.heap.size) :
    Calls Try.prog 12 #[.agg #[.int .i64 (p.c 0), .int .i64 (p.c 1), .int .i64 (p.c 2), .int .i64 (p.c 3), .int .i64 (p.c 4), .int .i64 (p.c 5), .int .i64 (p.c 6), .int .i64 (p.c 7), .int .i64 (p.c 8), .int .i64 (p.c 9), .int .i64 (p.c 10), .int .i64 (p.c 11), .int .i64 (p.c 12), .int .i64 (p.c 13), .int .i64 p.now, .int .i64 p.mode, .int .i64 p.nc, .int .i64 p.nt, .slice a.C p.cs.length a.cc, .slice a.A p.x.s.ss.length a.ca, .int .i64 p.x.s.f, .int .i64 p.x.s.l, .int .i64 p.x.s.r, .int .i64 p.x.s.c, .slice a.B p.x.ds.length a.cb, .int .i64 p.x.q, .int .i64 p.b.state, .slice a.F p.b.fails.length a.fc, .int .i64 p.b.till, .int .i64 p.fails, .int .i64 p.redial, .int .i64 p.drain], .int .i64 k] w fun e w' => e = .returned (.int .i64 (k + 4 * p.x.s.ss.length + 3 * p.x.ds.length)) ∧ LnV w' R a.A a.B (mkX k p.x) ∧ Tz R w w' := by
  have H := Lib.hid h
  have HR := Lib.hid hR
  have E0 : Hid (p.cs.length = 0) := by show _ = _; rw [h0]; rfl
  have H1 := Lib.hid h1
  clear h hR h0 h1
  go_enter Try.func12, Try.ntmps12
  go_upto_region 1 with fail
  obtain ⟨w0, hw0⟩ : ∃ w0, w.alloc (.cells #[.int .i64 (p.c 0), .int .i64 (p.c 1), .int .i64 (p.c 2), .int .i64 (p.c 3), .int .i64 (p.c 4), .int .i64 (p.c 5), .int .i64 (p.c 6), .int .i64 (p.c 7), .int .i64 (p.c 8), .int .i64 (p.c 9), .int .i64 (p.c 10), .int .i64 (p.c 11), .int .i64 (p.c 12), .int .i64 (p.c 13), .int .i64 p.now, .int .i64 p.mode, .int .i64 p.nc, .int .i64 p.nt, .slice a.C p.cs.length a.cc, .slice a.A p.x.s.ss.length a.ca, .int .i64 p.x.s.f, .int .i64 p.x.s.l, .int .i64 p.x.s.r, .int .i64 p.x.s.c, .slice a.B p.x.ds.length a.cb, .int .i64 p.x.q, .int .i64 p.b.state, .slice a.F p.b.fails.length a.fc, .int .i64 p.b.till, .int .i64 p.fails, .int .i64 p.redial, .int .i64 p.drain] 38) = w0 := ⟨_, rfl⟩
  have K : Hid (Bx w0 w.heap.size 38 #[.int .i64 (p.c 0), .int .i64 (p.c 1), .int .i64 (p.c 2), .int .i64 (p.c 3), .int .i64 (p.c 4), .int .i64 (p.c 5), .int .i64 (p.c 6), .int .i64 (p.c 7), .int .i64 (p.c 8), .int .i64 (p.c 9), .int .i64 (p.c 10), .int .i64 (p.c 11), .int .i64 (p.c 12), .int .i64 (p.c 13), .int .i64 p.now, .int .i64 p.mode, .int .i64 p.nc, .int .i64 p.nt, .slice a.C p.cs.length a.cc, .slice a.A p.x.s.ss.length a.ca, .int .i64 p.x.s.f, .int .i64 p.x.s.l, .int .i64 p.x.s.r, .int .i64 p.x.s.c, .slice a.B p.x.ds.length a.cb, .int .i64 p.x.q, .int .i64 p.b.state, .slice a.F p.b.fails.length a.fc, .int .i64 p.b.till, .int .i64 p.fails, .int .i64 p.redial, .int .i64 p.drain]) := by rw [← hw0]; exact Bx.new w _ _
  have B : Hid (Below w.heap.size w w0) := by rw [← hw0]; exact bel_alloc w _
  rw [hw0]
  clear hw0
  have k18 : w0.cell? ⟨w.heap.size, 18, none⟩ = some (.slice a.C 0 a.cc) := by have := K.out.cell 18; rw [E0.out] at this; exact this
  go_wp2_with fail
  refine (markConns_none a.C a.cc k w0).mono ?_
  rintro e _ ⟨rfl, rfl⟩
  clear k18
  obtain ⟨q19, q20, q21, q22, q23, q24, q25⟩ : w0.cell? ⟨w.heap.size, 19, none⟩ = some (.slice a.A p.x.s.ss.length a.ca) ∧ w0.cell? ⟨w.heap.size, 20, none⟩ = some (.int .i64 p.x.s.f) ∧ w0.cell? ⟨w.heap.size, 21, none⟩ = some (.int .i64 p.x.s.l) ∧ w0.cell? ⟨w.heap.size, 22, none⟩ = some (.int .i64 p.x.s.r) ∧ w0.cell? ⟨w.heap.size, 23, none⟩ = some (.int .i64 p.x.s.c) ∧ w0.cell? ⟨w.heap.size, 24, none⟩ = some (.slice a.B p.x.ds.length a.cb) ∧ w0.cell? ⟨w.heap.size, 25, none⟩ = some (.int .i64 p.x.q) := ⟨K.out.cell 19, K.out.cell 20, K.out.cell 21, K.out.cell 22, K.out.cell 23, K.out.cell 24, K.out.cell 25⟩
  go_wp2_with fail
  refine (markLine_any a.A a.ca p.x a.B a.cb R k w0 hn hm hk0 (by omega) (H.out.below B.out HR.out) (HR.out.wide (Nat.le_refl _) B.out.size)).mono ?_
  rintro e w1 ⟨rfl, v1, t1⟩
  clear q19 q20 q21 q22 q23 q24 q25
  have z1 := t1.size
  have zb := B.out.size
  have zk := K.out.lt
  obtain ⟨r1, r2, r3, r4⟩ := HR.out
  have K1 : Hid (Bx w1 w.heap.size 38 #[.int .i64 (p.c 0), .int .i64 (p.c 1), .int .i64 (p.c 2), .int .i64 (p.c 3), .int .i64 (p.c 4), .int .i64 (p.c 5), .int .i64 (p.c 6), .int .i64 (p.c 7), .int .i64 (p.c 8), .int .i64 (p.c 9), .int .i64 (p.c 10), .int .i64 (p.c 11), .int .i64 (p.c 12), .int .i64 (p.c 13), .int .i64 p.now, .int .i64 p.mode, .int .i64 p.nc, .int .i64 p.nt, .slice a.C p.cs.length a.cc, .slice a.A p.x.s.ss.length a.ca, .int .i64 p.x.s.f, .int .i64 p.x.s.l, .int .i64 p.x.s.r, .int .i64 p.x.s.c, .slice a.B p.x.ds.length a.cb, .int .i64 p.x.q, .int .i64 p.b.state, .slice a.F p.b.fails.length a.fc, .int .i64 p.b.till, .int .i64 p.fails, .int .i64 p.redial, .int .i64 p.drain]) := K.out.of_block (t1.block _ zk (.inr r2) (.inr r4))
  have T1 : Hid (Tz R w w1) := ⟨t1.os.trans B.out.os, t1.tape.trans B.out.tape, t1.output.trans B.out.output, by omega, fun g hg h1 h2 => (t1.block g (by omega) h1 h2).trans (B.out.block g hg)⟩
  have V1 := Lib.hid v1
  clear t1 v1 K
  obtain ⟨q26, q27, q28⟩ : w1.cell? ⟨w.heap.size, 26, none⟩ = some (.int .i64 p.b.state) ∧ w1.cell? ⟨w.heap.size, 27, none⟩ = some (.slice a.F p.b.fails.length a.fc) ∧ w1.cell? ⟨w.heap.size, 28, none⟩ = some (.int .i64 p.b.till) := ⟨K1.out.cell 26, K1.out.cell 27, K1.out.cell 28⟩
  have hb0 : 0 ≤ k + 4 * (p.x.s.ss.length : Int) + 3 * (p.x.ds.length : Int) := by omega
  have hb1 : k + 4 * (p.x.s.ss.length : Int) + 3 * (p.x.ds.length : Int) ≤ 1099511627776 := by omega
  obtain ⟨m, hm'⟩ : ∃ m, k + 4 * (p.x.s.ss.length : Int) + 3 * (p.x.ds.length : Int) = m := ⟨_, rfl⟩
  rw [hm'] at hb0 hb1 ⊢
  have Hm := Lib.hid hm'
  clear hm'
  go_wp2_with fail
  refine (Bk.markBreaker_any a.F p.b.fails.length a.fc 0 0 m p.b.state p.b.till p.b.fails w1 rfl (by rw [H1.out]; exact Nat.zero_le _) hb0 hb1 (by rw [H1.out]; exact fun h => absurd h (by simp)) (Nat.zero_le _)).mono ?_
  rintro e w2 ⟨rfl, _, t2⟩
  have b2 := below_of_turns t2
  have T2 : Hid (Tz R w w2) := ⟨b2.os.trans T1.out.os, b2.tape.trans T1.out.tape, b2.output.trans T1.out.output, Nat.le_trans T1.out.size b2.size, fun g hg h1 h2 => (b2.block g (by omega)).trans (T1.out.block g hg h1 h2)⟩
  have V2 := Lib.hid (V1.out.below b2 (HR.out.wide (Nat.le_refl _) (by omega)))
  have E1 : Hid (p.b.fails.length = 0) := by show _ = _; rw [H1.out]; rfl
  clear t2 b2 q26 q27 q28
  go_wp2
  go_ret
  exact ⟨ret_int (by have h1 := E1.out; have h2 := Hm.out; omega), V2.out, T2.out⟩

set_option maxRecDepth 100000 in
set_option maxHeartbeats 4000000 in
theorem heldPool_new (a : PA) (p : Pl) (R : Rg) (k : Int) (w : World) (h0 : p.cs = []) (h1 : p.b.fails = []) (hn : p.x.s.ss.length ≤ 1048576) (hm : p.x.ds.length ≤ 1048576) (hk0 : 0 ≤ k) (hk1 : k ≤ 1000) (h : LnV w R a.A a.B (mkX k p.x)) (hR : R.In 0 w.heap.size) :
    Calls Try.prog 13 #[.agg #[.int .i64 (p.c 0), .int .i64 (p.c 1), .int .i64 (p.c 2), .int .i64 (p.c 3), .int .i64 (p.c 4), .int .i64 (p.c 5), .int .i64 (p.c 6), .int .i64 (p.c 7), .int .i64 (p.c 8), .int .i64 (p.c 9), .int .i64 (p.c 10), .int .i64 (p.c 11), .int .i64 (p.c 12), .int .i64 (p.c 13), .int .i64 p.now, .int .i64 p.mode, .int .i64 p.nc, .int .i64 p.nt, .slice a.C p.cs.length a.cc, .slice a.A p.x.s.ss.length a.ca, .int .i64 p.x.s.f, .int .i64 p.x.s.l, .int .i64 p.x.s.r, .int .i64 p.x.s.c, .slice a.B p.x.ds.length a.cb, .int .i64 p.x.q, .int .i64 p.b.state, .slice a.F p.b.fails.length a.fc, .int .i64 p.b.till, .int .i64 p.fails, .int .i64 p.redial, .int .i64 p.drain], .int .i64 k] w fun e w' => e = .returned (.int .i64 (k + 4 * p.x.s.ss.length + 3 * p.x.ds.length)) ∧ Below w.heap.size w w' := by
  have H := Lib.hid h
  have HR := Lib.hid hR
  have E0 : Hid (p.cs.length = 0) := by show _ = _; rw [h0]; rfl
  have H1 := Lib.hid h1
  clear h hR h0 h1
  have hk2 : ¬ k < 0 := by omega
  go_enter Try.func13, Try.ntmps13
  go_upto_region 1 with fail
  obtain ⟨w0, hw0⟩ : ∃ w0, w.alloc (.cells #[.int .i64 (p.c 0), .int .i64 (p.c 1), .int .i64 (p.c 2), .int .i64 (p.c 3), .int .i64 (p.c 4), .int .i64 (p.c 5), .int .i64 (p.c 6), .int .i64 (p.c 7), .int .i64 (p.c 8), .int .i64 (p.c 9), .int .i64 (p.c 10), .int .i64 (p.c 11), .int .i64 (p.c 12), .int .i64 (p.c 13), .int .i64 p.now, .int .i64 p.mode, .int .i64 p.nc, .int .i64 p.nt, .slice a.C p.cs.length a.cc, .slice a.A p.x.s.ss.length a.ca, .int .i64 p.x.s.f, .int .i64 p.x.s.l, .int .i64 p.x.s.r, .int .i64 p.x.s.c, .slice a.B p.x.ds.length a.cb, .int .i64 p.x.q, .int .i64 p.b.state, .slice a.F p.b.fails.length a.fc, .int .i64 p.b.till, .int .i64 p.fails, .int .i64 p.redial, .int .i64 p.drain] 38) = w0 := ⟨_, rfl⟩
  have K : Hid (Bx w0 w.heap.size 38 #[.int .i64 (p.c 0), .int .i64 (p.c 1), .int .i64 (p.c 2), .int .i64 (p.c 3), .int .i64 (p.c 4), .int .i64 (p.c 5), .int .i64 (p.c 6), .int .i64 (p.c 7), .int .i64 (p.c 8), .int .i64 (p.c 9), .int .i64 (p.c 10), .int .i64 (p.c 11), .int .i64 (p.c 12), .int .i64 (p.c 13), .int .i64 p.now, .int .i64 p.mode, .int .i64 p.nc, .int .i64 p.nt, .slice a.C p.cs.length a.cc, .slice a.A p.x.s.ss.length a.ca, .int .i64 p.x.s.f, .int .i64 p.x.s.l, .int .i64 p.x.s.r, .int .i64 p.x.s.c, .slice a.B p.x.ds.length a.cb, .int .i64 p.x.q, .int .i64 p.b.state, .slice a.F p.b.fails.length a.fc, .int .i64 p.b.till, .int .i64 p.fails, .int .i64 p.redial, .int .i64 p.drain]) := by rw [← hw0]; exact Bx.new w _ _
  have B : Hid (Below w.heap.size w w0) := by rw [← hw0]; exact bel_alloc w _
  rw [hw0]
  clear hw0
  have k18 : w0.cell? ⟨w.heap.size, 18, none⟩ = some (.slice a.C 0 a.cc) := by have := K.out.cell 18; rw [E0.out] at this; exact this
  go_wp2_with fail
  refine (heldConns_none a.C a.cc k w0).mono ?_
  rintro e _ ⟨rfl, rfl⟩
  clear k18
  obtain ⟨q19, q20, q21, q22, q23, q24, q25⟩ : w0.cell? ⟨w.heap.size, 19, none⟩ = some (.slice a.A p.x.s.ss.length a.ca) ∧ w0.cell? ⟨w.heap.size, 20, none⟩ = some (.int .i64 p.x.s.f) ∧ w0.cell? ⟨w.heap.size, 21, none⟩ = some (.int .i64 p.x.s.l) ∧ w0.cell? ⟨w.heap.size, 22, none⟩ = some (.int .i64 p.x.s.r) ∧ w0.cell? ⟨w.heap.size, 23, none⟩ = some (.int .i64 p.x.s.c) ∧ w0.cell? ⟨w.heap.size, 24, none⟩ = some (.slice a.B p.x.ds.length a.cb) ∧ w0.cell? ⟨w.heap.size, 25, none⟩ = some (.int .i64 p.x.q) := ⟨K.out.cell 19, K.out.cell 20, K.out.cell 21, K.out.cell 22, K.out.cell 23, K.out.cell 24, K.out.cell 25⟩
  go_wp2_with fail
  refine (heldLine_any a.A a.ca p.x a.B a.cb R k w0 hn hm hk0 (by omega) (H.out.below B.out HR.out) (HR.out.wide (Nat.le_refl _) B.out.size)).mono ?_
  rintro e w1 ⟨rfl, b1⟩
  clear q19 q20 q21 q22 q23 q24 q25
  replace K := Lib.hid (K.out.below b1)
  replace B := Lib.hid (bel_trans B.out b1)
  clear b1
  obtain ⟨q26, q27, q28⟩ : w1.cell? ⟨w.heap.size, 26, none⟩ = some (.int .i64 p.b.state) ∧ w1.cell? ⟨w.heap.size, 27, none⟩ = some (.slice a.F p.b.fails.length a.fc) ∧ w1.cell? ⟨w.heap.size, 28, none⟩ = some (.int .i64 p.b.till) := ⟨K.out.cell 26, K.out.cell 27, K.out.cell 28⟩
  have hb0 : 0 ≤ k + 4 * (p.x.s.ss.length : Int) + 3 * (p.x.ds.length : Int) := by omega
  have hb1 : k + 4 * (p.x.s.ss.length : Int) + 3 * (p.x.ds.length : Int) ≤ 1099511627776 := by omega
  have hb2 : ¬ k + 4 * (p.x.s.ss.length : Int) + 3 * (p.x.ds.length : Int) < 0 := by omega
  obtain ⟨m, hm'⟩ : ∃ m, k + 4 * (p.x.s.ss.length : Int) + 3 * (p.x.ds.length : Int) = m := ⟨_, rfl⟩
  rw [hm'] at hb0 hb1 hb2 ⊢
  have Hm := Lib.hid hm'
  clear hm'
  have E2 : Hid (p.b.fails.length = 0) := by show _ = _; rw [H1.out]; rfl
  go_wp2_with fail
  refine (Bk.heldBreaker_any a.F p.b.fails.length a.fc 0 0 m p.b.state p.b.till w1 (by have := E2.out; omega) hb0 hb1 (by rw [E2.out]; exact fun h => absurd h (by simp [Rw.mkI])) (Nat.zero_le _)).mono ?_
  rintro e w2 ⟨rfl, b2⟩
  replace B := Lib.hid (bel_trans B.out b2)
  have hb3 : ¬ m + (p.b.fails.length : Int) < 0 := by have := E2.out; omega
  clear b2 q26 q27 q28
  go_wp2
  go_ret
  exact ⟨ret_int (by have h1 := E2.out; have h2 := Hm.out; omega), B.out⟩

theorem pn_few (c : Nat → Int) : Few (pnP c) 1048576 ∧ (pnP c).cs = [] ∧ (pnP c).b.fails = [] := by
  unfold pnP
  by_cases h : Cf.okC c = true
  · rw [if_pos h]
    have h2 : Que.newS.length ≤ 1048576 := by rw [Que.newS_len]; omega
    exact ⟨⟨Nat.zero_le _, h2, Nat.zero_le _, Nat.zero_le _⟩, rfl, rfl⟩
  · rw [if_neg h]
    exact ⟨⟨Nat.zero_le _, Nat.zero_le _, Nat.zero_le _, Nat.zero_le _⟩, rfl, rfl⟩

set_option maxRecDepth 100000 in
set_option maxHeartbeats 40000000 in
theorem lawPoolNew (c : Nat → Int) (w : World) : Calls Try.prog 3 #[.agg #[.int .i64 (c 0), .int .i64 (c 1), .int .i64 (c 2), .int .i64 (c 3), .int .i64 (c 4), .int .i64 (c 5), .int .i64 (c 6), .int .i64 (c 7), .int .i64 (c 8), .int .i64 (c 9), .int .i64 (c 10), .int .i64 (c 11), .int .i64 (c 12), .int .i64 (c 13)]] w fun e w' => e = .returned (.bool true) ∧ Below w.heap.size w w' := by
  obtain ⟨p, hp⟩ : ∃ p, pnP c = p := ⟨_, rfl⟩
  obtain ⟨z, hz⟩ : ∃ z, Cf.okC c = z := ⟨_, rfl⟩
  have hf := pn_few c
  have HSp : Hid (∀ W, Calls Try.prog 8 #[.agg #[.int .i64 (c 0), .int .i64 (c 1), .int .i64 (c 2), .int .i64 (c 3), .int .i64 (c 4), .int .i64 (c 5), .int .i64 (c 6), .int .i64 (c 7), .int .i64 (c 8), .int .i64 (c 9), .int .i64 (c 10), .int .i64 (c 11), .int .i64 (c 12), .int .i64 (c 13)]] W (NewPB W p z)) := fun W => by rw [← hp, ← hz]; exact specNew_any c W
  have HIm : Hid (∀ W, Calls Try.prog 10 #[.agg #[.int .i64 (c 0), .int .i64 (c 1), .int .i64 (c 2), .int .i64 (c 3), .int .i64 (c 4), .int .i64 (c 5), .int .i64 (c 6), .int .i64 (c 7), .int .i64 (c 8), .int .i64 (c 9), .int .i64 (c 10), .int .i64 (c 11), .int .i64 (c 12), .int .i64 (c 13)]] W (NewPB W p z)) := fun W => by rw [← hp, ← hz]; exact implNew_any c W
  rw [hp] at hf
  have Hf := Lib.hid hf.1
  have Hc := Lib.hid hf.2.1
  have Hb := Lib.hid hf.2.2
  have hn : p.x.s.ss.length ≤ 1048576 := hf.1.s
  have hm : p.x.ds.length ≤ 1048576 := hf.1.h
  have hq : ¬ 1 + 4 * (p.x.s.ss.length : Int) + 3 * (p.x.ds.length : Int) < 0 := by omega
  clear hp hz hf
  go_enter Try.func3, Try.ntmps3
  go_upto_region 1 with fail
  obtain ⟨w0, hw0⟩ : ∃ w0, w.alloc (.cells #[.int .i64 (c 0), .int .i64 (c 1), .int .i64 (c 2), .int .i64 (c 3), .int .i64 (c 4), .int .i64 (c 5), .int .i64 (c 6), .int .i64 (c 7), .int .i64 (c 8), .int .i64 (c 9), .int .i64 (c 10), .int .i64 (c 11), .int .i64 (c 12), .int .i64 (c 13)] 23) = w0 := ⟨_, rfl⟩
  have K : Hid (Bx w0 w.heap.size 23 #[.int .i64 (c 0), .int .i64 (c 1), .int .i64 (c 2), .int .i64 (c 3), .int .i64 (c 4), .int .i64 (c 5), .int .i64 (c 6), .int .i64 (c 7), .int .i64 (c 8), .int .i64 (c 9), .int .i64 (c 10), .int .i64 (c 11), .int .i64 (c 12), .int .i64 (c 13)]) := by rw [← hw0]; exact Bx.new w _ _
  have B1 : Hid (Below w.heap.size w w0) := by rw [← hw0]; exact bel_alloc w _
  have s0 := K.out.lt
  rw [hw0]
  clear hw0
  refine wp_region_lit ?_
  refine wpList_load_mid rfl 23 (.tmp 1) rfl w.heap.size 0 rfl [.int .i64 (c 0), .int .i64 (c 1), .int .i64 (c 2), .int .i64 (c 3), .int .i64 (c 4), .int .i64 (c 5), .int .i64 (c 6), .int .i64 (c 7), .int .i64 (c 8), .int .i64 (c 9), .int .i64 (c 10), .int .i64 (c 11), .int .i64 (c 12), .int .i64 (c 13)] _ (bx_range K.out) Try.underlying23 rfl (by kernel_rfl) ?_
  go_wp2_with fail
  refine (Cf.toConfig_any c w0).mono ?_
  rintro e v1 ⟨rfl, b1⟩
  have s1 := b1.size
  replace K := Lib.hid (K.out.below b1)
  replace B1 := Lib.hid (bel_trans B1.out b1)
  clear b1
  go_wp2_with fail
  refine (HSp.out v1).mono ?_
  rintro e x1 ⟨R1, a1, rfl, p1, r1, b1⟩
  have t1 := b1.size
  replace K := Lib.hid (K.out.below b1)
  replace B1 := Lib.hid (bel_trans B1.out b1)
  have P1 := Lib.hid p1
  clear b1 p1
  rename_i hK
  refine hK _ _ ?_
  clear hK
  refine wpList_val rfl (v := .tuple #[.agg #[.int .i64 (p.c 0), .int .i64 (p.c 1), .int .i64 (p.c 2), .int .i64 (p.c 3), .int .i64 (p.c 4), .int .i64 (p.c 5), .int .i64 (p.c 6), .int .i64 (p.c 7), .int .i64 (p.c 8), .int .i64 (p.c 9), .int .i64 (p.c 10), .int .i64 (p.c 11), .int .i64 (p.c 12), .int .i64 (p.c 13), .int .i64 p.now, .int .i64 p.mode, .int .i64 p.nc, .int .i64 p.nt, .slice a1.C p.cs.length a1.cc, .slice a1.A p.x.s.ss.length a1.ca, .int .i64 p.x.s.f, .int .i64 p.x.s.l, .int .i64 p.x.s.r, .int .i64 p.x.s.c, .slice a1.B p.x.ds.length a1.cb, .int .i64 p.x.q, .int .i64 p.b.state, .slice a1.F p.b.fails.length a1.fc, .int .i64 p.b.till, .int .i64 p.fails, .int .i64 p.redial, .int .i64 p.drain], .bool z]) (w' := x1) rfl ?_
  refine wpList_val rfl (v := .agg #[.int .i64 (p.c 0), .int .i64 (p.c 1), .int .i64 (p.c 2), .int .i64 (p.c 3), .int .i64 (p.c 4), .int .i64 (p.c 5), .int .i64 (p.c 6), .int .i64 (p.c 7), .int .i64 (p.c 8), .int .i64 (p.c 9), .int .i64 (p.c 10), .int .i64 (p.c 11), .int .i64 (p.c 12), .int .i64 (p.c 13), .int .i64 p.now, .int .i64 p.mode, .int .i64 p.nc, .int .i64 p.nt, .slice a1.C p.cs.length a1.cc, .slice a1.A p.x.s.ss.length a1.ca, .int .i64 p.x.s.f, .int .i64 p.x.s.l, .int .i64 p.x.s.r, .int .i64 p.x.s.c, .slice a1.B p.x.ds.length a1.cb, .int .i64 p.x.q, .int .i64 p.b.state, .slice a1.F p.b.fails.length a1.fc, .int .i64 p.b.till, .int .i64 p.fails, .int .i64 p.redial, .int .i64 p.drain]) (w' := x1) rfl ?_
  refine wpList_val rfl (v := .bool z) (w' := x1) rfl ?_
  refine wpList_alloc_agg rfl 38 rfl _ (Try.zeroValue38 x1) ?_
  refine wpList_store_new rfl 38 (.tmp 3) (.tmp 15) rfl x1 _ #[.int .i64 (p.c 0), .int .i64 (p.c 1), .int .i64 (p.c 2), .int .i64 (p.c 3), .int .i64 (p.c 4), .int .i64 (p.c 5), .int .i64 (p.c 6), .int .i64 (p.c 7), .int .i64 (p.c 8), .int .i64 (p.c 9), .int .i64 (p.c 10), .int .i64 (p.c 11), .int .i64 (p.c 12), .int .i64 (p.c 13), .int .i64 p.now, .int .i64 p.mode, .int .i64 p.nc, .int .i64 p.nt, .slice a1.C p.cs.length a1.cc, .slice a1.A p.x.s.ss.length a1.ca, .int .i64 p.x.s.f, .int .i64 p.x.s.l, .int .i64 p.x.s.r, .int .i64 p.x.s.c, .slice a1.B p.x.ds.length a1.cb, .int .i64 p.x.q, .int .i64 p.b.state, .slice a1.F p.b.fails.length a1.fc, .int .i64 p.b.till, .int .i64 p.fails, .int .i64 p.redial, .int .i64 p.drain] rfl rfl (by kernel_rfl) rfl (by simp [Value.oneCell']) ?_
  obtain ⟨y1, hy⟩ : ∃ V, x1.alloc (.cells #[.int .i64 (p.c 0), .int .i64 (p.c 1), .int .i64 (p.c 2), .int .i64 (p.c 3), .int .i64 (p.c 4), .int .i64 (p.c 5), .int .i64 (p.c 6), .int .i64 (p.c 7), .int .i64 (p.c 8), .int .i64 (p.c 9), .int .i64 (p.c 10), .int .i64 (p.c 11), .int .i64 (p.c 12), .int .i64 (p.c 13), .int .i64 p.now, .int .i64 p.mode, .int .i64 p.nc, .int .i64 p.nt, .slice a1.C p.cs.length a1.cc, .slice a1.A p.x.s.ss.length a1.ca, .int .i64 p.x.s.f, .int .i64 p.x.s.l, .int .i64 p.x.s.r, .int .i64 p.x.s.c, .slice a1.B p.x.ds.length a1.cb, .int .i64 p.x.q, .int .i64 p.b.state, .slice a1.F p.b.fails.length a1.fc, .int .i64 p.b.till, .int .i64 p.fails, .int .i64 p.redial, .int .i64 p.drain] 38) = V := ⟨_, rfl⟩
  have ba : Below x1.heap.size x1 y1 := by rw [← hy]; exact bel_alloc _ _
  have K1 : Hid (Bx y1 x1.heap.size 38 #[.int .i64 (p.c 0), .int .i64 (p.c 1), .int .i64 (p.c 2), .int .i64 (p.c 3), .int .i64 (p.c 4), .int .i64 (p.c 5), .int .i64 (p.c 6), .int .i64 (p.c 7), .int .i64 (p.c 8), .int .i64 (p.c 9), .int .i64 (p.c 10), .int .i64 (p.c 11), .int .i64 (p.c 12), .int .i64 (p.c 13), .int .i64 p.now, .int .i64 p.mode, .int .i64 p.nc, .int .i64 p.nt, .slice a1.C p.cs.length a1.cc, .slice a1.A p.x.s.ss.length a1.ca, .int .i64 p.x.s.f, .int .i64 p.x.s.l, .int .i64 p.x.s.r, .int .i64 p.x.s.c, .slice a1.B p.x.ds.length a1.cb, .int .i64 p.x.q, .int .i64 p.b.state, .slice a1.F p.b.fails.length a1.fc, .int .i64 p.b.till, .int .i64 p.fails, .int .i64 p.redial, .int .i64 p.drain]) := by rw [← hy]; exact Bx.new _ _ _
  rw [hy]
  clear hy
  have u1 := K1.out.lt
  replace K := Lib.hid (K.out.below ba)
  replace B1 := Lib.hid (bel_trans B1.out ba)
  replace P1 := Lib.hid (P1.out.below ba (r1.wide (Nat.zero_le _) (Nat.le_refl _)))
  clear ba
  go_upto_region 2 with fail
  refine wp_region_lit ?_
  refine wpList_load_mid rfl 23 (.tmp 1) rfl w.heap.size 0 rfl [.int .i64 (c 0), .int .i64 (c 1), .int .i64 (c 2), .int .i64 (c 3), .int .i64 (c 4), .int .i64 (c 5), .int .i64 (c 6), .int .i64 (c 7), .int .i64 (c 8), .int .i64 (c 9), .int .i64 (c 10), .int .i64 (c 11), .int .i64 (c 12), .int .i64 (c 13)] _ (bx_range K.out) Try.underlying23 rfl (by kernel_rfl) ?_
  go_wp2_with fail
  refine (Cf.toConfig_any c y1).mono ?_
  rintro e v2 ⟨rfl, b2⟩
  have s2 := b2.size
  replace K := Lib.hid (K.out.below b2)
  replace K1 := Lib.hid (K1.out.below b2)
  replace P1 := Lib.hid (P1.out.below b2 (r1.wide (Nat.zero_le _) (by omega)))
  replace B1 := Lib.hid (bel_trans B1.out b2)
  clear b2
  go_wp2_with fail
  refine (HIm.out v2).mono ?_
  rintro e x2 ⟨R2, a2, rfl, p2, r2, b2⟩
  have t2 := b2.size
  replace K := Lib.hid (K.out.below b2)
  replace K1 := Lib.hid (K1.out.below b2)
  replace P1 := Lib.hid (P1.out.below b2 (r1.wide (Nat.zero_le _) (by omega)))
  replace B1 := Lib.hid (bel_trans B1.out b2)
  have P2 := Lib.hid p2
  clear b2 p2
  rename_i hK
  refine hK _ _ ?_
  clear hK
  refine wpList_val rfl (v := .tuple #[.agg #[.int .i64 (p.c 0), .int .i64 (p.c 1), .int .i64 (p.c 2), .int .i64 (p.c 3), .int .i64 (p.c 4), .int .i64 (p.c 5), .int .i64 (p.c 6), .int .i64 (p.c 7), .int .i64 (p.c 8), .int .i64 (p.c 9), .int .i64 (p.c 10), .int .i64 (p.c 11), .int .i64 (p.c 12), .int .i64 (p.c 13), .int .i64 p.now, .int .i64 p.mode, .int .i64 p.nc, .int .i64 p.nt, .slice a2.C p.cs.length a2.cc, .slice a2.A p.x.s.ss.length a2.ca, .int .i64 p.x.s.f, .int .i64 p.x.s.l, .int .i64 p.x.s.r, .int .i64 p.x.s.c, .slice a2.B p.x.ds.length a2.cb, .int .i64 p.x.q, .int .i64 p.b.state, .slice a2.F p.b.fails.length a2.fc, .int .i64 p.b.till, .int .i64 p.fails, .int .i64 p.redial, .int .i64 p.drain], .bool z]) (w' := x2) rfl ?_
  refine wpList_val rfl (v := .agg #[.int .i64 (p.c 0), .int .i64 (p.c 1), .int .i64 (p.c 2), .int .i64 (p.c 3), .int .i64 (p.c 4), .int .i64 (p.c 5), .int .i64 (p.c 6), .int .i64 (p.c 7), .int .i64 (p.c 8), .int .i64 (p.c 9), .int .i64 (p.c 10), .int .i64 (p.c 11), .int .i64 (p.c 12), .int .i64 (p.c 13), .int .i64 p.now, .int .i64 p.mode, .int .i64 p.nc, .int .i64 p.nt, .slice a2.C p.cs.length a2.cc, .slice a2.A p.x.s.ss.length a2.ca, .int .i64 p.x.s.f, .int .i64 p.x.s.l, .int .i64 p.x.s.r, .int .i64 p.x.s.c, .slice a2.B p.x.ds.length a2.cb, .int .i64 p.x.q, .int .i64 p.b.state, .slice a2.F p.b.fails.length a2.fc, .int .i64 p.b.till, .int .i64 p.fails, .int .i64 p.redial, .int .i64 p.drain]) (w' := x2) rfl ?_
  refine wpList_val rfl (v := .bool z) (w' := x2) rfl ?_
  refine wpList_alloc_agg rfl 38 rfl _ (Try.zeroValue38 x2) ?_
  refine wpList_store_new rfl 38 (.tmp 5) (.tmp 21) rfl x2 _ #[.int .i64 (p.c 0), .int .i64 (p.c 1), .int .i64 (p.c 2), .int .i64 (p.c 3), .int .i64 (p.c 4), .int .i64 (p.c 5), .int .i64 (p.c 6), .int .i64 (p.c 7), .int .i64 (p.c 8), .int .i64 (p.c 9), .int .i64 (p.c 10), .int .i64 (p.c 11), .int .i64 (p.c 12), .int .i64 (p.c 13), .int .i64 p.now, .int .i64 p.mode, .int .i64 p.nc, .int .i64 p.nt, .slice a2.C p.cs.length a2.cc, .slice a2.A p.x.s.ss.length a2.ca, .int .i64 p.x.s.f, .int .i64 p.x.s.l, .int .i64 p.x.s.r, .int .i64 p.x.s.c, .slice a2.B p.x.ds.length a2.cb, .int .i64 p.x.q, .int .i64 p.b.state, .slice a2.F p.b.fails.length a2.fc, .int .i64 p.b.till, .int .i64 p.fails, .int .i64 p.redial, .int .i64 p.drain] rfl rfl (by kernel_rfl) rfl (by simp [Value.oneCell']) ?_
  obtain ⟨y2, hy⟩ : ∃ V, x2.alloc (.cells #[.int .i64 (p.c 0), .int .i64 (p.c 1), .int .i64 (p.c 2), .int .i64 (p.c 3), .int .i64 (p.c 4), .int .i64 (p.c 5), .int .i64 (p.c 6), .int .i64 (p.c 7), .int .i64 (p.c 8), .int .i64 (p.c 9), .int .i64 (p.c 10), .int .i64 (p.c 11), .int .i64 (p.c 12), .int .i64 (p.c 13), .int .i64 p.now, .int .i64 p.mode, .int .i64 p.nc, .int .i64 p.nt, .slice a2.C p.cs.length a2.cc, .slice a2.A p.x.s.ss.length a2.ca, .int .i64 p.x.s.f, .int .i64 p.x.s.l, .int .i64 p.x.s.r, .int .i64 p.x.s.c, .slice a2.B p.x.ds.length a2.cb, .int .i64 p.x.q, .int .i64 p.b.state, .slice a2.F p.b.fails.length a2.fc, .int .i64 p.b.till, .int .i64 p.fails, .int .i64 p.redial, .int .i64 p.drain] 38) = V := ⟨_, rfl⟩
  have ba : Below x2.heap.size x2 y2 := by rw [← hy]; exact bel_alloc _ _
  have K2 : Hid (Bx y2 x2.heap.size 38 #[.int .i64 (p.c 0), .int .i64 (p.c 1), .int .i64 (p.c 2), .int .i64 (p.c 3), .int .i64 (p.c 4), .int .i64 (p.c 5), .int .i64 (p.c 6), .int .i64 (p.c 7), .int .i64 (p.c 8), .int .i64 (p.c 9), .int .i64 (p.c 10), .int .i64 (p.c 11), .int .i64 (p.c 12), .int .i64 (p.c 13), .int .i64 p.now, .int .i64 p.mode, .int .i64 p.nc, .int .i64 p.nt, .slice a2.C p.cs.length a2.cc, .slice a2.A p.x.s.ss.length a2.ca, .int .i64 p.x.s.f, .int .i64 p.x.s.l, .int .i64 p.x.s.r, .int .i64 p.x.s.c, .slice a2.B p.x.ds.length a2.cb, .int .i64 p.x.q, .int .i64 p.b.state, .slice a2.F p.b.fails.length a2.fc, .int .i64 p.b.till, .int .i64 p.fails, .int .i64 p.redial, .int .i64 p.drain]) := by rw [← hy]; exact Bx.new _ _ _
  rw [hy]
  clear hy
  have u2 := K2.out.lt
  replace K := Lib.hid (K.out.below ba)
  replace K1 := Lib.hid (K1.out.below ba)
  replace P1 := Lib.hid (P1.out.below ba (r1.wide (Nat.zero_le _) (by omega)))
  replace B1 := Lib.hid (bel_trans B1.out ba)
  replace P2 := Lib.hid (P2.out.below ba (r2.wide (Nat.zero_le _) (Nat.le_refl _)))
  clear ba
  go_upto_region 3 with fail
  refine wp_region_lit ?_
  refine wpList_load_mid rfl 38 (.tmp 5) rfl x2.heap.size 0 rfl [.int .i64 (p.c 0), .int .i64 (p.c 1), .int .i64 (p.c 2), .int .i64 (p.c 3), .int .i64 (p.c 4), .int .i64 (p.c 5), .int .i64 (p.c 6), .int .i64 (p.c 7), .int .i64 (p.c 8), .int .i64 (p.c 9), .int .i64 (p.c 10), .int .i64 (p.c 11), .int .i64 (p.c 12), .int .i64 (p.c 13), .int .i64 p.now, .int .i64 p.mode, .int .i64 p.nc, .int .i64 p.nt, .slice a2.C p.cs.length a2.cc, .slice a2.A p.x.s.ss.length a2.ca, .int .i64 p.x.s.f, .int .i64 p.x.s.l, .int .i64 p.x.s.r, .int .i64 p.x.s.c, .slice a2.B p.x.ds.length a2.cb, .int .i64 p.x.q, .int .i64 p.b.state, .slice a2.F p.b.fails.length a2.fc, .int .i64 p.b.till, .int .i64 p.fails, .int .i64 p.redial, .int .i64 p.drain] _ (bx_range K2.out) Try.underlying38 rfl (by kernel_rfl) ?_
  refine wpList_load_mid rfl 38 (.tmp 3) rfl x1.heap.size 0 rfl [.int .i64 (p.c 0), .int .i64 (p.c 1), .int .i64 (p.c 2), .int .i64 (p.c 3), .int .i64 (p.c 4), .int .i64 (p.c 5), .int .i64 (p.c 6), .int .i64 (p.c 7), .int .i64 (p.c 8), .int .i64 (p.c 9), .int .i64 (p.c 10), .int .i64 (p.c 11), .int .i64 (p.c 12), .int .i64 (p.c 13), .int .i64 p.now, .int .i64 p.mode, .int .i64 p.nc, .int .i64 p.nt, .slice a1.C p.cs.length a1.cc, .slice a1.A p.x.s.ss.length a1.ca, .int .i64 p.x.s.f, .int .i64 p.x.s.l, .int .i64 p.x.s.r, .int .i64 p.x.s.c, .slice a1.B p.x.ds.length a1.cb, .int .i64 p.x.q, .int .i64 p.b.state, .slice a1.F p.b.fails.length a1.fc, .int .i64 p.b.till, .int .i64 p.fails, .int .i64 p.redial, .int .i64 p.drain] _ (bx_range K1.out) Try.underlying38 rfl (by kernel_rfl) ?_
  go_wp2_with fail
  refine (eqPool_same a2 a1 p R2 R1 y2 Hf.out P2.out P1.out (r2.wide (Nat.zero_le _) (by omega)) (r1.wide (Nat.zero_le _) (by omega))).mono ?_
  rintro e y3 ⟨rfl, b3⟩
  have t3 := b3.size
  replace K := Lib.hid (K.out.below b3)
  replace K1 := Lib.hid (K1.out.below b3)
  replace K2 := Lib.hid (K2.out.below b3)
  replace P1 := Lib.hid (P1.out.below b3 (r1.wide (Nat.zero_le _) (by omega)))
  replace P2 := Lib.hid (P2.out.below b3 (r2.wide (Nat.zero_le _) (by omega)))
  replace B1 := Lib.hid (bel_trans B1.out b3)
  clear b3
  go_upto_region 6 with fail
  refine wp_region_lit ?_
  refine wpList_load_mid rfl 38 (.tmp 5) rfl x2.heap.size 0 rfl [.int .i64 (p.c 0), .int .i64 (p.c 1), .int .i64 (p.c 2), .int .i64 (p.c 3), .int .i64 (p.c 4), .int .i64 (p.c 5), .int .i64 (p.c 6), .int .i64 (p.c 7), .int .i64 (p.c 8), .int .i64 (p.c 9), .int .i64 (p.c 10), .int .i64 (p.c 11), .int .i64 (p.c 12), .int .i64 (p.c 13), .int .i64 p.now, .int .i64 p.mode, .int .i64 p.nc, .int .i64 p.nt, .slice a2.C p.cs.length a2.cc, .slice a2.A p.x.s.ss.length a2.ca, .int .i64 p.x.s.f, .int .i64 p.x.s.l, .int .i64 p.x.s.r, .int .i64 p.x.s.c, .slice a2.B p.x.ds.length a2.cb, .int .i64 p.x.q, .int .i64 p.b.state, .slice a2.F p.b.fails.length a2.fc, .int .i64 p.b.till, .int .i64 p.fails, .int .i64 p.redial, .int .i64 p.drain] _ (bx_range K2.out) Try.underlying38 rfl (by kernel_rfl) ?_
  go_wp2_with fail
  refine (markPool_new a2 p R2.L 1 y3 Hc.out Hb.out hn hm (by omega) (by omega) P2.out.x (r2.L.wide (Nat.zero_le _) (by omega))).mono ?_
  rintro e y6 ⟨rfl, m6, t6⟩
  have g6 := t6.size
  obtain ⟨l1, l2, l3, l4⟩ := r2.L
  have T6 : Hid (Below v2.heap.size y3 y6) := t6.below (r2.L.wide (Nat.le_refl _) (Nat.le_refl _)) (by omega)
  replace K := Lib.hid (K.out.of_block (T6.out.block _ (by omega)))
  replace K1 := Lib.hid (K1.out.of_block (T6.out.block _ (by omega)))
  replace K2 := Lib.hid (K2.out.of_block (t6.block _ K2.out.lt (.inr (by omega)) (.inr (by omega))))
  replace P1 := Lib.hid (P1.out.below T6.out (r1.wide (Nat.le_refl _) (by omega)))
  replace B1 := Lib.hid (B1.out.trans (T6.out.mono (by omega)))
  have M := Lib.hid m6
  clear t6 T6 m6 P2 l1 l2 l3 l4
  go_upto_region 8 with fail
  refine wp_region_lit ?_
  refine wpList_load_mid rfl 38 (.tmp 5) rfl x2.heap.size 0 rfl [.int .i64 (p.c 0), .int .i64 (p.c 1), .int .i64 (p.c 2), .int .i64 (p.c 3), .int .i64 (p.c 4), .int .i64 (p.c 5), .int .i64 (p.c 6), .int .i64 (p.c 7), .int .i64 (p.c 8), .int .i64 (p.c 9), .int .i64 (p.c 10), .int .i64 (p.c 11), .int .i64 (p.c 12), .int .i64 (p.c 13), .int .i64 p.now, .int .i64 p.mode, .int .i64 p.nc, .int .i64 p.nt, .slice a2.C p.cs.length a2.cc, .slice a2.A p.x.s.ss.length a2.ca, .int .i64 p.x.s.f, .int .i64 p.x.s.l, .int .i64 p.x.s.r, .int .i64 p.x.s.c, .slice a2.B p.x.ds.length a2.cb, .int .i64 p.x.q, .int .i64 p.b.state, .slice a2.F p.b.fails.length a2.fc, .int .i64 p.b.till, .int .i64 p.fails, .int .i64 p.redial, .int .i64 p.drain] _ (bx_range K2.out) Try.underlying38 rfl (by kernel_rfl) ?_
  go_wp2_with fail
  refine (heldPool_new a2 p R2.L 1 y6 Hc.out Hb.out hn hm (by omega) (by omega) M.out (r2.L.wide (Nat.zero_le _) (by omega))).mono ?_
  rintro e y8 ⟨rfl, b8⟩
  have t8 := b8.size
  replace K := Lib.hid (K.out.below b8)
  replace K1 := Lib.hid (K1.out.below b8)
  replace K2 := Lib.hid (K2.out.below b8)
  replace P1 := Lib.hid (P1.out.below b8 (r1.wide (Nat.zero_le _) (by omega)))
  replace M := Lib.hid (M.out.below b8 (r2.L.wide (Nat.zero_le _) (by omega)))
  replace B1 := Lib.hid (bel_trans B1.out b8)
  clear b8
  go_upto_region 13 with fail
  refine wp_region_lit ?_
  refine wpList_load_mid rfl 23 (.tmp 1) rfl w.heap.size 0 rfl [.int .i64 (c 0), .int .i64 (c 1), .int .i64 (c 2), .int .i64 (c 3), .int .i64 (c 4), .int .i64 (c 5), .int .i64 (c 6), .int .i64 (c 7), .int .i64 (c 8), .int .i64 (c 9), .int .i64 (c 10), .int .i64 (c 11), .int .i64 (c 12), .int .i64 (c 13)] _ (bx_range K.out) Try.underlying23 rfl (by kernel_rfl) ?_
  go_wp2_with fail
  refine (Cf.toConfig_any c y8).mono ?_
  rintro e v13 ⟨rfl, b13⟩
  have s13 := b13.size
  replace K := Lib.hid (K.out.below b13)
  replace K1 := Lib.hid (K1.out.below b13)
  replace K2 := Lib.hid (K2.out.below b13)
  replace P1 := Lib.hid (P1.out.below b13 (r1.wide (Nat.zero_le _) (by omega)))
  replace M := Lib.hid (M.out.below b13 (r2.L.wide (Nat.zero_le _) (by omega)))
  replace B1 := Lib.hid (bel_trans B1.out b13)
  clear b13
  go_wp2_with fail
  refine (HIm.out v13).mono ?_
  rintro e x13 ⟨R13, a13, rfl, p13, r13, b13⟩
  have t13 := b13.size
  replace K := Lib.hid (K.out.below b13)
  replace K1 := Lib.hid (K1.out.below b13)
  replace K2 := Lib.hid (K2.out.below b13)
  replace P1 := Lib.hid (P1.out.below b13 (r1.wide (Nat.zero_le _) (by omega)))
  replace M := Lib.hid (M.out.below b13 (r2.L.wide (Nat.zero_le _) (by omega)))
  replace B1 := Lib.hid (bel_trans B1.out b13)
  have P13 := Lib.hid p13
  clear b13 p13
  rename_i hK
  refine hK _ _ ?_
  clear hK
  refine wpList_val rfl (v := .tuple #[.agg #[.int .i64 (p.c 0), .int .i64 (p.c 1), .int .i64 (p.c 2), .int .i64 (p.c 3), .int .i64 (p.c 4), .int .i64 (p.c 5), .int .i64 (p.c 6), .int .i64 (p.c 7), .int .i64 (p.c 8), .int .i64 (p.c 9), .int .i64 (p.c 10), .int .i64 (p.c 11), .int .i64 (p.c 12), .int .i64 (p.c 13), .int .i64 p.now, .int .i64 p.mode, .int .i64 p.nc, .int .i64 p.nt, .slice a13.C p.cs.length a13.cc, .slice a13.A p.x.s.ss.length a13.ca, .int .i64 p.x.s.f, .int .i64 p.x.s.l, .int .i64 p.x.s.r, .int .i64 p.x.s.c, .slice a13.B p.x.ds.length a13.cb, .int .i64 p.x.q, .int .i64 p.b.state, .slice a13.F p.b.fails.length a13.fc, .int .i64 p.b.till, .int .i64 p.fails, .int .i64 p.redial, .int .i64 p.drain], .bool z]) (w' := x13) rfl ?_
  refine wpList_val rfl (v := .agg #[.int .i64 (p.c 0), .int .i64 (p.c 1), .int .i64 (p.c 2), .int .i64 (p.c 3), .int .i64 (p.c 4), .int .i64 (p.c 5), .int .i64 (p.c 6), .int .i64 (p.c 7), .int .i64 (p.c 8), .int .i64 (p.c 9), .int .i64 (p.c 10), .int .i64 (p.c 11), .int .i64 (p.c 12), .int .i64 (p.c 13), .int .i64 p.now, .int .i64 p.mode, .int .i64 p.nc, .int .i64 p.nt, .slice a13.C p.cs.length a13.cc, .slice a13.A p.x.s.ss.length a13.ca, .int .i64 p.x.s.f, .int .i64 p.x.s.l, .int .i64 p.x.s.r, .int .i64 p.x.s.c, .slice a13.B p.x.ds.length a13.cb, .int .i64 p.x.q, .int .i64 p.b.state, .slice a13.F p.b.fails.length a13.fc, .int .i64 p.b.till, .int .i64 p.fails, .int .i64 p.redial, .int .i64 p.drain]) (w' := x13) rfl ?_
  refine wpList_val rfl (v := .bool z) (w' := x13) rfl ?_
  refine wpList_alloc_agg rfl 38 rfl _ (Try.zeroValue38 x13) ?_
  refine wpList_store_new rfl 38 (.tmp 9) (.tmp 47) rfl x13 _ #[.int .i64 (p.c 0), .int .i64 (p.c 1), .int .i64 (p.c 2), .int .i64 (p.c 3), .int .i64 (p.c 4), .int .i64 (p.c 5), .int .i64 (p.c 6), .int .i64 (p.c 7), .int .i64 (p.c 8), .int .i64 (p.c 9), .int .i64 (p.c 10), .int .i64 (p.c 11), .int .i64 (p.c 12), .int .i64 (p.c 13), .int .i64 p.now, .int .i64 p.mode, .int .i64 p.nc, .int .i64 p.nt, .slice a13.C p.cs.length a13.cc, .slice a13.A p.x.s.ss.length a13.ca, .int .i64 p.x.s.f, .int .i64 p.x.s.l, .int .i64 p.x.s.r, .int .i64 p.x.s.c, .slice a13.B p.x.ds.length a13.cb, .int .i64 p.x.q, .int .i64 p.b.state, .slice a13.F p.b.fails.length a13.fc, .int .i64 p.b.till, .int .i64 p.fails, .int .i64 p.redial, .int .i64 p.drain] rfl rfl (by kernel_rfl) rfl (by simp [Value.oneCell']) ?_
  obtain ⟨y13, hy⟩ : ∃ V, x13.alloc (.cells #[.int .i64 (p.c 0), .int .i64 (p.c 1), .int .i64 (p.c 2), .int .i64 (p.c 3), .int .i64 (p.c 4), .int .i64 (p.c 5), .int .i64 (p.c 6), .int .i64 (p.c 7), .int .i64 (p.c 8), .int .i64 (p.c 9), .int .i64 (p.c 10), .int .i64 (p.c 11), .int .i64 (p.c 12), .int .i64 (p.c 13), .int .i64 p.now, .int .i64 p.mode, .int .i64 p.nc, .int .i64 p.nt, .slice a13.C p.cs.length a13.cc, .slice a13.A p.x.s.ss.length a13.ca, .int .i64 p.x.s.f, .int .i64 p.x.s.l, .int .i64 p.x.s.r, .int .i64 p.x.s.c, .slice a13.B p.x.ds.length a13.cb, .int .i64 p.x.q, .int .i64 p.b.state, .slice a13.F p.b.fails.length a13.fc, .int .i64 p.b.till, .int .i64 p.fails, .int .i64 p.redial, .int .i64 p.drain] 38) = V := ⟨_, rfl⟩
  have ba : Below x13.heap.size x13 y13 := by rw [← hy]; exact bel_alloc _ _
  have K13 : Hid (Bx y13 x13.heap.size 38 #[.int .i64 (p.c 0), .int .i64 (p.c 1), .int .i64 (p.c 2), .int .i64 (p.c 3), .int .i64 (p.c 4), .int .i64 (p.c 5), .int .i64 (p.c 6), .int .i64 (p.c 7), .int .i64 (p.c 8), .int .i64 (p.c 9), .int .i64 (p.c 10), .int .i64 (p.c 11), .int .i64 (p.c 12), .int .i64 (p.c 13), .int .i64 p.now, .int .i64 p.mode, .int .i64 p.nc, .int .i64 p.nt, .slice a13.C p.cs.length a13.cc, .slice a13.A p.x.s.ss.length a13.ca, .int .i64 p.x.s.f, .int .i64 p.x.s.l, .int .i64 p.x.s.r, .int .i64 p.x.s.c, .slice a13.B p.x.ds.length a13.cb, .int .i64 p.x.q, .int .i64 p.b.state, .slice a13.F p.b.fails.length a13.fc, .int .i64 p.b.till, .int .i64 p.fails, .int .i64 p.redial, .int .i64 p.drain]) := by rw [← hy]; exact Bx.new _ _ _
  rw [hy]
  clear hy
  have u13 := K13.out.lt
  replace K := Lib.hid (K.out.below ba)
  replace K1 := Lib.hid (K1.out.below ba)
  replace K2 := Lib.hid (K2.out.below ba)
  replace P1 := Lib.hid (P1.out.below ba (r1.wide (Nat.zero_le _) (by omega)))
  replace M := Lib.hid (M.out.below ba (r2.L.wide (Nat.zero_le _) (by omega)))
  replace B1 := Lib.hid (bel_trans B1.out ba)
  replace P13 := Lib.hid (P13.out.below ba (r13.wide (Nat.zero_le _) (Nat.le_refl _)))
  clear ba
  go_upto_region 14 with fail
  refine wp_region_lit ?_
  refine wpList_load_mid rfl 38 (.tmp 9) rfl x13.heap.size 0 rfl [.int .i64 (p.c 0), .int .i64 (p.c 1), .int .i64 (p.c 2), .int .i64 (p.c 3), .int .i64 (p.c 4), .int .i64 (p.c 5), .int .i64 (p.c 6), .int .i64 (p.c 7), .int .i64 (p.c 8), .int .i64 (p.c 9), .int .i64 (p.c 10), .int .i64 (p.c 11), .int .i64 (p.c 12), .int .i64 (p.c 13), .int .i64 p.now, .int .i64 p.mode, .int .i64 p.nc, .int .i64 p.nt, .slice a13.C p.cs.length a13.cc, .slice a13.A p.x.s.ss.length a13.ca, .int .i64 p.x.s.f, .int .i64 p.x.s.l, .int .i64 p.x.s.r, .int .i64 p.x.s.c, .slice a13.B p.x.ds.length a13.cb, .int .i64 p.x.q, .int .i64 p.b.state, .slice a13.F p.b.fails.length a13.fc, .int .i64 p.b.till, .int .i64 p.fails, .int .i64 p.redial, .int .i64 p.drain] _ (bx_range K13.out) Try.underlying38 rfl (by kernel_rfl) ?_
  refine wpList_load_mid rfl 38 (.tmp 3) rfl x1.heap.size 0 rfl [.int .i64 (p.c 0), .int .i64 (p.c 1), .int .i64 (p.c 2), .int .i64 (p.c 3), .int .i64 (p.c 4), .int .i64 (p.c 5), .int .i64 (p.c 6), .int .i64 (p.c 7), .int .i64 (p.c 8), .int .i64 (p.c 9), .int .i64 (p.c 10), .int .i64 (p.c 11), .int .i64 (p.c 12), .int .i64 (p.c 13), .int .i64 p.now, .int .i64 p.mode, .int .i64 p.nc, .int .i64 p.nt, .slice a1.C p.cs.length a1.cc, .slice a1.A p.x.s.ss.length a1.ca, .int .i64 p.x.s.f, .int .i64 p.x.s.l, .int .i64 p.x.s.r, .int .i64 p.x.s.c, .slice a1.B p.x.ds.length a1.cb, .int .i64 p.x.q, .int .i64 p.b.state, .slice a1.F p.b.fails.length a1.fc, .int .i64 p.b.till, .int .i64 p.fails, .int .i64 p.redial, .int .i64 p.drain] _ (bx_range K1.out) Try.underlying38 rfl (by kernel_rfl) ?_
  go_wp2_with fail
  refine (eqPool_same a13 a1 p R13 R1 y13 Hf.out P13.out P1.out (r13.wide (Nat.zero_le _) (by omega)) (r1.wide (Nat.zero_le _) (by omega))).mono ?_
  rintro e y14 ⟨rfl, b14⟩
  have t14 := b14.size
  replace K := Lib.hid (K.out.below b14)
  replace K1 := Lib.hid (K1.out.below b14)
  replace K2 := Lib.hid (K2.out.below b14)
  replace K13 := Lib.hid (K13.out.below b14)
  replace P1 := Lib.hid (P1.out.below b14 (r1.wide (Nat.zero_le _) (by omega)))
  replace M := Lib.hid (M.out.below b14 (r2.L.wide (Nat.zero_le _) (by omega)))
  replace P13 := Lib.hid (P13.out.below b14 (r13.wide (Nat.zero_le _) (by omega)))
  replace B1 := Lib.hid (bel_trans B1.out b14)
  clear b14
  go_upto_region 17 with fail
  refine wp_region_lit ?_
  refine wpList_load_mid rfl 38 (.tmp 5) rfl x2.heap.size 0 rfl [.int .i64 (p.c 0), .int .i64 (p.c 1), .int .i64 (p.c 2), .int .i64 (p.c 3), .int .i64 (p.c 4), .int .i64 (p.c 5), .int .i64 (p.c 6), .int .i64 (p.c 7), .int .i64 (p.c 8), .int .i64 (p.c 9), .int .i64 (p.c 10), .int .i64 (p.c 11), .int .i64 (p.c 12), .int .i64 (p.c 13), .int .i64 p.now, .int .i64 p.mode, .int .i64 p.nc, .int .i64 p.nt, .slice a2.C p.cs.length a2.cc, .slice a2.A p.x.s.ss.length a2.ca, .int .i64 p.x.s.f, .int .i64 p.x.s.l, .int .i64 p.x.s.r, .int .i64 p.x.s.c, .slice a2.B p.x.ds.length a2.cb, .int .i64 p.x.q, .int .i64 p.b.state, .slice a2.F p.b.fails.length a2.fc, .int .i64 p.b.till, .int .i64 p.fails, .int .i64 p.redial, .int .i64 p.drain] _ (bx_range K2.out) Try.underlying38 rfl (by kernel_rfl) ?_
  go_wp2_with fail
  refine (heldPool_new a2 p R2.L 1 y14 Hc.out Hb.out hn hm (by omega) (by omega) M.out (r2.L.wide (Nat.zero_le _) (by omega))).mono ?_
  rintro e y17 ⟨rfl, b17⟩
  have t17 := b17.size
  replace K := Lib.hid (K.out.below b17)
  replace K1 := Lib.hid (K1.out.below b17)
  replace K2 := Lib.hid (K2.out.below b17)
  replace K13 := Lib.hid (K13.out.below b17)
  replace P1 := Lib.hid (P1.out.below b17 (r1.wide (Nat.zero_le _) (by omega)))
  replace M := Lib.hid (M.out.below b17 (r2.L.wide (Nat.zero_le _) (by omega)))
  replace P13 := Lib.hid (P13.out.below b17 (r13.wide (Nat.zero_le _) (by omega)))
  replace B1 := Lib.hid (bel_trans B1.out b17)
  clear b17
  go_wp2
  go_ret
  exact ⟨rfl, B1.out⟩
end Go.Proofs.Ytehdbdolhkflcaa.Po
