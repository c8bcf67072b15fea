/- The law of PoolSafe. -/
import Derived.Test.YtehdbdolhkflcaaPsg
import Derived.Test.YtehdbdolhkflcaaPm3
import Derived.Deep.RegionHeld3
import Derived.Deep.RegionWith
namespace Go.Proofs.Ytehdbdolhkflcaa.Po
open Go.RowKit Go.Deep Base Ln

/-- Two boxes: a pool of the program's type at x, one of the law's at a. -/
structure TpPoolSafe (x a : Nat) (vs us : Array Value) (w : World) : Prop where
  x : Bx w x 38 vs
  a : Bx w a 56 us
theorem TpPoolSafe.below {x a : Nat} {vs us : Array Value} {w w' : World} (h : TpPoolSafe x a vs us w) (b : Below w.heap.size w w') : TpPoolSafe x a vs us w' := ⟨h.x.below b, h.a.below b⟩

set_option maxRecDepth 100000 in
set_option maxHeartbeats 40000000 in
theorem lawPoolSafe (a : PA) (p : Pl) (w : World) (hn : Few p maxLen) (h : PL w a p) :
    Calls Try.prog 7 #[.agg #[.int .i64 (p.c 0), .int .i64 (p.c 1), .int .i64 (p.c 2), .int .i64 (p.c 3), .int .i64 (p.c 4), .int .i64 (p.c 5), .int .i64 (p.c 6), .int .i64 (p.c 7), .int .i64 (p.c 8), .int .i64 (p.c 9), .int .i64 (p.c 10), .int .i64 (p.c 11), .int .i64 (p.c 12), .int .i64 (p.c 13), .int .i64 p.now, .int .i64 p.mode, .int .i64 p.nc, .int .i64 p.nt, .slice a.C p.cs.length a.cc, .slice a.A p.x.s.ss.length a.ca, .int .i64 p.x.s.f, .int .i64 p.x.s.l, .int .i64 p.x.s.r, .int .i64 p.x.s.c, .slice a.B p.x.ds.length a.cb, .int .i64 p.x.q, .int .i64 p.b.state, .slice a.F p.b.fails.length a.fc, .int .i64 p.b.till, .int .i64 p.fails, .int .i64 p.redial, .int .i64 p.drain]] w fun e w' => e = .returned (.bool true) ∧ Below w.heap.size w w' := by
  have HL := Lib.hid h
  have HN : Hid (Few p 9223372036854775807) := hn
  clear h hn
  obtain ⟨z, hz⟩ : ∃ z : Bool, safeB p = z := ⟨_, rfl⟩
  have HSp : Hid (∀ a R W, Few p 1048576 → PM W R a p → R.In 0 W.heap.size → Calls Try.prog 22 #[.agg #[.int .i64 (p.c 0), .int .i64 (p.c 1), .int .i64 (p.c 2), .int .i64 (p.c 3), .int .i64 (p.c 4), .int .i64 (p.c 5), .int .i64 (p.c 6), .int .i64 (p.c 7), .int .i64 (p.c 8), .int .i64 (p.c 9), .int .i64 (p.c 10), .int .i64 (p.c 11), .int .i64 (p.c 12), .int .i64 (p.c 13), .int .i64 p.now, .int .i64 p.mode, .int .i64 p.nc, .int .i64 p.nt, .slice a.C p.cs.length a.cc, .slice a.A p.x.s.ss.length a.ca, .int .i64 p.x.s.f, .int .i64 p.x.s.l, .int .i64 p.x.s.r, .int .i64 p.x.s.c, .slice a.B p.x.ds.length a.cb, .int .i64 p.x.q, .int .i64 p.b.state, .slice a.F p.b.fails.length a.fc, .int .i64 p.b.till, .int .i64 p.fails, .int .i64 p.redial, .int .i64 p.drain]] W fun e w' => e = .returned (.bool z) ∧ Below W.heap.size W w') := fun a R W h1 h2 h3 => by
    rw [← hz]
    exact specPoolSafe_any a p R W h1 h2 h3
  have HIm : Hid (∀ a R W, Few p 1048576 → PM W R a p → R.In 0 W.heap.size → Calls Try.prog 23 #[.agg #[.int .i64 (p.c 0), .int .i64 (p.c 1), .int .i64 (p.c 2), .int .i64 (p.c 3), .int .i64 (p.c 4), .int .i64 (p.c 5), .int .i64 (p.c 6), .int .i64 (p.c 7), .int .i64 (p.c 8), .int .i64 (p.c 9), .int .i64 (p.c 10), .int .i64 (p.c 11), .int .i64 (p.c 12), .int .i64 (p.c 13), .int .i64 p.now, .int .i64 p.mode, .int .i64 p.nc, .int .i64 p.nt, .slice a.C p.cs.length a.cc, .slice a.A p.x.s.ss.length a.ca, .int .i64 p.x.s.f, .int .i64 p.x.s.l, .int .i64 p.x.s.r, .int .i64 p.x.s.c, .slice a.B p.x.ds.length a.cb, .int .i64 p.x.q, .int .i64 p.b.state, .slice a.F p.b.fails.length a.fc, .int .i64 p.b.till, .int .i64 p.fails, .int .i64 p.redial, .int .i64 p.drain]] W fun e w' => e = .returned (.bool z) ∧ Below W.heap.size W w') := fun a R W h1 h2 h3 => by
    rw [← hz]
    exact implPoolSafe_any a p R W h1 h2 h3
  clear hz
  go_enter Try.func7, Try.ntmps7
  go_upto_region 2 with fail
  obtain ⟨w0, hw0⟩ : ∃ w0, w.alloc (.cells #[.int .i64 (p.c 0), .int .i64 (p.c 1), .int .i64 (p.c 2), .int .i64 (p.c 3), .int .i64 (p.c 4), .int .i64 (p.c 5), .int .i64 (p.c 6), .int .i64 (p.c 7), .int .i64 (p.c 8), .int .i64 (p.c 9), .int .i64 (p.c 10), .int .i64 (p.c 11), .int .i64 (p.c 12), .int .i64 (p.c 13), .int .i64 p.now, .int .i64 p.mode, .int .i64 p.nc, .int .i64 p.nt, .slice a.C p.cs.length a.cc, .slice a.A p.x.s.ss.length a.ca, .int .i64 p.x.s.f, .int .i64 p.x.s.l, .int .i64 p.x.s.r, .int .i64 p.x.s.c, .slice a.B p.x.ds.length a.cb, .int .i64 p.x.q, .int .i64 p.b.state, .slice a.F p.b.fails.length a.fc, .int .i64 p.b.till, .int .i64 p.fails, .int .i64 p.redial, .int .i64 p.drain] 56) = w0 := ⟨_, rfl⟩
  have K : Hid (Bx w0 w.heap.size 56 #[.int .i64 (p.c 0), .int .i64 (p.c 1), .int .i64 (p.c 2), .int .i64 (p.c 3), .int .i64 (p.c 4), .int .i64 (p.c 5), .int .i64 (p.c 6), .int .i64 (p.c 7), .int .i64 (p.c 8), .int .i64 (p.c 9), .int .i64 (p.c 10), .int .i64 (p.c 11), .int .i64 (p.c 12), .int .i64 (p.c 13), .int .i64 p.now, .int .i64 p.mode, .int .i64 p.nc, .int .i64 p.nt, .slice a.C p.cs.length a.cc, .slice a.A p.x.s.ss.length a.ca, .int .i64 p.x.s.f, .int .i64 p.x.s.l, .int .i64 p.x.s.r, .int .i64 p.x.s.c, .slice a.B p.x.ds.length a.cb, .int .i64 p.x.q, .int .i64 p.b.state, .slice a.F p.b.fails.length a.fc, .int .i64 p.b.till, .int .i64 p.fails, .int .i64 p.redial, .int .i64 p.drain]) := by rw [← hw0]; exact Bx.new w _ _
  have B1 : Hid (Below w.heap.size w w0) := by rw [← hw0]; exact bel_alloc w _
  rw [hw0]
  clear hw0
  refine wp_region_lit ?_
  refine wpList_load_mid rfl 56 (.tmp 1) rfl w.heap.size 0 rfl [.int .i64 (p.c 0), .int .i64 (p.c 1), .int .i64 (p.c 2), .int .i64 (p.c 3), .int .i64 (p.c 4), .int .i64 (p.c 5), .int .i64 (p.c 6), .int .i64 (p.c 7), .int .i64 (p.c 8), .int .i64 (p.c 9), .int .i64 (p.c 10), .int .i64 (p.c 11), .int .i64 (p.c 12), .int .i64 (p.c 13), .int .i64 p.now, .int .i64 p.mode, .int .i64 p.nc, .int .i64 p.nt, .slice a.C p.cs.length a.cc, .slice a.A p.x.s.ss.length a.ca, .int .i64 p.x.s.f, .int .i64 p.x.s.l, .int .i64 p.x.s.r, .int .i64 p.x.s.c, .slice a.B p.x.ds.length a.cb, .int .i64 p.x.q, .int .i64 p.b.state, .slice a.F p.b.fails.length a.fc, .int .i64 p.b.till, .int .i64 p.fails, .int .i64 p.redial, .int .i64 p.drain] _ (bx_range K.out) Try.underlying56 rfl (by kernel_rfl) ?_
  go_wp2_with fail
  refine (szPool_any a p 1048576 _ HN.out (by omega) (by omega)).mono ?_
  rintro e w1 ⟨⟨y, rfl, hy⟩, b1⟩
  replace K := Lib.hid (K.out.below b1)
  replace B1 := Lib.hid (bel_trans B1.out b1)
  have s1 : w.heap.size < w1.heap.size := K.out.lt
  clear b1
  by_cases hl : y < 0
  · clear hy
    go_wp2
    go_ret
    exact ⟨rfl, B1.out⟩
  have Hf : Hid (Few p 1048576) := by
    have e1 := (hy.resolve_left hl).2
    unfold sizeP at e1
    exact ⟨by omega, by omega, by omega, by omega⟩
  clear hy
  go_upto_region 5 with fail
  refine wp_region_lit ?_
  refine wpList_load_mid rfl 56 (.tmp 1) rfl w.heap.size 0 rfl [.int .i64 (p.c 0), .int .i64 (p.c 1), .int .i64 (p.c 2), .int .i64 (p.c 3), .int .i64 (p.c 4), .int .i64 (p.c 5), .int .i64 (p.c 6), .int .i64 (p.c 7), .int .i64 (p.c 8), .int .i64 (p.c 9), .int .i64 (p.c 10), .int .i64 (p.c 11), .int .i64 (p.c 12), .int .i64 (p.c 13), .int .i64 p.now, .int .i64 p.mode, .int .i64 p.nc, .int .i64 p.nt, .slice a.C p.cs.length a.cc, .slice a.A p.x.s.ss.length a.ca, .int .i64 p.x.s.f, .int .i64 p.x.s.l, .int .i64 p.x.s.r, .int .i64 p.x.s.c, .slice a.B p.x.ds.length a.cb, .int .i64 p.x.q, .int .i64 p.b.state, .slice a.F p.b.fails.length a.fc, .int .i64 p.b.till, .int .i64 p.fails, .int .i64 p.redial, .int .i64 p.drain] _ (bx_range K.out) Try.underlying56 rfl (by kernel_rfl) ?_
  go_wp2_with fail
  refine (toPool_any a p w1 Hf.out (HL.out.below B1.out)).mono ?_
  rintro e w2 ⟨R2, a2, rfl, v2, r2, b2⟩
  have s2 := b2.size
  replace K := Lib.hid (K.out.below b2)
  replace B1 := Lib.hid (bel_trans B1.out b2)
  clear b2
  have V2 := Lib.hid v2
  clear v2
  go_wp2_with fail
  refine (HSp.out a2 R2 w2 Hf.out V2.out (r2.wide (Nat.zero_le _) (Nat.le_refl _))).mono ?_
  rintro e w3 ⟨rfl, b3⟩
  have s3 := b3.size
  clear V2 r2
  replace K := Lib.hid (K.out.below b3)
  replace B1 := Lib.hid (bel_trans B1.out b3)
  clear b3
  go_upto_region 6 with fail
  refine wp_region_lit ?_
  refine wpList_load_mid rfl 56 (.tmp 1) rfl w.heap.size 0 rfl [.int .i64 (p.c 0), .int .i64 (p.c 1), .int .i64 (p.c 2), .int .i64 (p.c 3), .int .i64 (p.c 4), .int .i64 (p.c 5), .int .i64 (p.c 6), .int .i64 (p.c 7), .int .i64 (p.c 8), .int .i64 (p.c 9), .int .i64 (p.c 10), .int .i64 (p.c 11), .int .i64 (p.c 12), .int .i64 (p.c 13), .int .i64 p.now, .int .i64 p.mode, .int .i64 p.nc, .int .i64 p.nt, .slice a.C p.cs.length a.cc, .slice a.A p.x.s.ss.length a.ca, .int .i64 p.x.s.f, .int .i64 p.x.s.l, .int .i64 p.x.s.r, .int .i64 p.x.s.c, .slice a.B p.x.ds.length a.cb, .int .i64 p.x.q, .int .i64 p.b.state, .slice a.F p.b.fails.length a.fc, .int .i64 p.b.till, .int .i64 p.fails, .int .i64 p.redial, .int .i64 p.drain] _ (bx_range K.out) Try.underlying56 rfl (by kernel_rfl) ?_
  go_wp2_with fail
  refine (toPool_any a p w3 Hf.out (HL.out.below B1.out)).mono ?_
  rintro e w4 ⟨R4, a4, rfl, v4, r4, b4⟩
  have s4 := b4.size
  replace K := Lib.hid (K.out.below b4)
  replace B1 := Lib.hid (bel_trans B1.out b4)
  clear b4
  have VX := Lib.hid v4
  clear v4
  obtain ⟨w4a, hw4a⟩ : ∃ w4a, w4.alloc (.cells #[.int .i64 (p.c 0), .int .i64 (p.c 1), .int .i64 (p.c 2), .int .i64 (p.c 3), .int .i64 (p.c 4), .int .i64 (p.c 5), .int .i64 (p.c 6), .int .i64 (p.c 7), .int .i64 (p.c 8), .int .i64 (p.c 9), .int .i64 (p.c 10), .int .i64 (p.c 11), .int .i64 (p.c 12), .int .i64 (p.c 13), .int .i64 p.now, .int .i64 p.mode, .int .i64 p.nc, .int .i64 p.nt, .slice a4.C p.cs.length a4.cc, .slice a4.A p.x.s.ss.length a4.ca, .int .i64 p.x.s.f, .int .i64 p.x.s.l, .int .i64 p.x.s.r, .int .i64 p.x.s.c, .slice a4.B p.x.ds.length a4.cb, .int .i64 p.x.q, .int .i64 p.b.state, .slice a4.F p.b.fails.length a4.fc, .int .i64 p.b.till, .int .i64 p.fails, .int .i64 p.redial, .int .i64 p.drain] 38) = w4a := ⟨_, rfl⟩
  have ba : Below w4.heap.size w4 w4a := by rw [← hw4a]; exact bel_alloc _ _
  have KX : Hid (Bx w4a w4.heap.size 38 #[.int .i64 (p.c 0), .int .i64 (p.c 1), .int .i64 (p.c 2), .int .i64 (p.c 3), .int .i64 (p.c 4), .int .i64 (p.c 5), .int .i64 (p.c 6), .int .i64 (p.c 7), .int .i64 (p.c 8), .int .i64 (p.c 9), .int .i64 (p.c 10), .int .i64 (p.c 11), .int .i64 (p.c 12), .int .i64 (p.c 13), .int .i64 p.now, .int .i64 p.mode, .int .i64 p.nc, .int .i64 p.nt, .slice a4.C p.cs.length a4.cc, .slice a4.A p.x.s.ss.length a4.ca, .int .i64 p.x.s.f, .int .i64 p.x.s.l, .int .i64 p.x.s.r, .int .i64 p.x.s.c, .slice a4.B p.x.ds.length a4.cb, .int .i64 p.x.q, .int .i64 p.b.state, .slice a4.F p.b.fails.length a4.fc, .int .i64 p.b.till, .int .i64 p.fails, .int .i64 p.redial, .int .i64 p.drain]) := by rw [← hw4a]; exact Bx.new _ _ _
  have sw4a : w4.heap.size < w4a.heap.size := KX.out.lt
  replace K := Lib.hid (K.out.below ba)
  replace VX := Lib.hid (VX.out.below ba (r4.wide (Nat.zero_le _) (Nat.le_refl _)))
  replace B1 := Lib.hid (bel_trans B1.out ba)
  clear ba
  rename_i hK
  refine hK _ _ ?_
  refine wpList_alloc_agg rfl 38 rfl _ (Try.zeroValue38 w4) ?_
  refine wpList_store_new rfl 38 (.tmp 5) (.tmp 16) rfl w4 _ #[.int .i64 (p.c 0), .int .i64 (p.c 1), .int .i64 (p.c 2), .int .i64 (p.c 3), .int .i64 (p.c 4), .int .i64 (p.c 5), .int .i64 (p.c 6), .int .i64 (p.c 7), .int .i64 (p.c 8), .int .i64 (p.c 9), .int .i64 (p.c 10), .int .i64 (p.c 11), .int .i64 (p.c 12), .int .i64 (p.c 13), .int .i64 p.now, .int .i64 p.mode, .int .i64 p.nc, .int .i64 p.nt, .slice a4.C p.cs.length a4.cc, .slice a4.A p.x.s.ss.length a4.ca, .int .i64 p.x.s.f, .int .i64 p.x.s.l, .int .i64 p.x.s.r, .int .i64 p.x.s.c, .slice a4.B p.x.ds.length a4.cb, .int .i64 p.x.q, .int .i64 p.b.state, .slice a4.F p.b.fails.length a4.fc, .int .i64 p.b.till, .int .i64 p.fails, .int .i64 p.redial, .int .i64 p.drain] rfl rfl (by kernel_rfl) rfl (by simp [Value.oneCell']) ?_
  rw [hw4a]
  go_upto_region 7 with fail
  refine wp_region_lit ?_
  refine wpList_load_mid rfl 38 (.tmp 5) rfl w4.heap.size 0 rfl [.int .i64 (p.c 0), .int .i64 (p.c 1), .int .i64 (p.c 2), .int .i64 (p.c 3), .int .i64 (p.c 4), .int .i64 (p.c 5), .int .i64 (p.c 6), .int .i64 (p.c 7), .int .i64 (p.c 8), .int .i64 (p.c 9), .int .i64 (p.c 10), .int .i64 (p.c 11), .int .i64 (p.c 12), .int .i64 (p.c 13), .int .i64 p.now, .int .i64 p.mode, .int .i64 p.nc, .int .i64 p.nt, .slice a4.C p.cs.length a4.cc, .slice a4.A p.x.s.ss.length a4.ca, .int .i64 p.x.s.f, .int .i64 p.x.s.l, .int .i64 p.x.s.r, .int .i64 p.x.s.c, .slice a4.B p.x.ds.length a4.cb, .int .i64 p.x.q, .int .i64 p.b.state, .slice a4.F p.b.fails.length a4.fc, .int .i64 p.b.till, .int .i64 p.fails, .int .i64 p.redial, .int .i64 p.drain] _ (bx_range KX.out) Try.underlying38 rfl (by kernel_rfl) ?_
  go_wp2_with fail
  refine (HIm.out a4 R4 w4a Hf.out VX.out (r4.wide (Nat.zero_le _) (by omega))).mono ?_

  rintro e w6 ⟨rfl, b5⟩
  have s5 := b5.size
  clear hw4a
  replace K := Lib.hid (K.out.below b5)
  replace KX := Lib.hid (KX.out.below b5)
  replace VX := Lib.hid (VX.out.below b5 (r4.wide (Nat.zero_le _) (by omega)))
  replace B1 := Lib.hid (bel_trans B1.out b5)
  clear b5
  go_wp2_with fail
  have HT : Hid (TpPoolSafe w4.heap.size w.heap.size #[.int .i64 (p.c 0), .int .i64 (p.c 1), .int .i64 (p.c 2), .int .i64 (p.c 3), .int .i64 (p.c 4), .int .i64 (p.c 5), .int .i64 (p.c 6), .int .i64 (p.c 7), .int .i64 (p.c 8), .int .i64 (p.c 9), .int .i64 (p.c 10), .int .i64 (p.c 11), .int .i64 (p.c 12), .int .i64 (p.c 13), .int .i64 p.now, .int .i64 p.mode, .int .i64 p.nc, .int .i64 p.nt, .slice a4.C p.cs.length a4.cc, .slice a4.A p.x.s.ss.length a4.ca, .int .i64 p.x.s.f, .int .i64 p.x.s.l, .int .i64 p.x.s.r, .int .i64 p.x.s.c, .slice a4.B p.x.ds.length a4.cb, .int .i64 p.x.q, .int .i64 p.b.state, .slice a4.F p.b.fails.length a4.fc, .int .i64 p.b.till, .int .i64 p.fails, .int .i64 p.redial, .int .i64 p.drain] #[.int .i64 (p.c 0), .int .i64 (p.c 1), .int .i64 (p.c 2), .int .i64 (p.c 3), .int .i64 (p.c 4), .int .i64 (p.c 5), .int .i64 (p.c 6), .int .i64 (p.c 7), .int .i64 (p.c 8), .int .i64 (p.c 9), .int .i64 (p.c 10), .int .i64 (p.c 11), .int .i64 (p.c 12), .int .i64 (p.c 13), .int .i64 p.now, .int .i64 p.mode, .int .i64 p.nc, .int .i64 p.nt, .slice a.C p.cs.length a.cc, .slice a.A p.x.s.ss.length a.ca, .int .i64 p.x.s.f, .int .i64 p.x.s.l, .int .i64 p.x.s.r, .int .i64 p.x.s.c, .slice a.B p.x.ds.length a.cb, .int .i64 p.x.q, .int .i64 p.b.state, .slice a.F p.b.fails.length a.fc, .int .i64 p.b.till, .int .i64 p.fails, .int .i64 p.redial, .int .i64 p.drain] w6.drew) := ⟨KX.out, K.out⟩
  refine wp_region_held_drew (S := TpPoolSafe w4.heap.size w.heap.size #[.int .i64 (p.c 0), .int .i64 (p.c 1), .int .i64 (p.c 2), .int .i64 (p.c 3), .int .i64 (p.c 4), .int .i64 (p.c 5), .int .i64 (p.c 6), .int .i64 (p.c 7), .int .i64 (p.c 8), .int .i64 (p.c 9), .int .i64 (p.c 10), .int .i64 (p.c 11), .int .i64 (p.c 12), .int .i64 (p.c 13), .int .i64 p.now, .int .i64 p.mode, .int .i64 p.nc, .int .i64 p.nt, .slice a4.C p.cs.length a4.cc, .slice a4.A p.x.s.ss.length a4.ca, .int .i64 p.x.s.f, .int .i64 p.x.s.l, .int .i64 p.x.s.r, .int .i64 p.x.s.c, .slice a4.B p.x.ds.length a4.cb, .int .i64 p.x.q, .int .i64 p.b.state, .slice a4.F p.b.fails.length a4.fc, .int .i64 p.b.till, .int .i64 p.fails, .int .i64 p.redial, .int .i64 p.drain] #[.int .i64 (p.c 0), .int .i64 (p.c 1), .int .i64 (p.c 2), .int .i64 (p.c 3), .int .i64 (p.c 4), .int .i64 (p.c 5), .int .i64 (p.c 6), .int .i64 (p.c 7), .int .i64 (p.c 8), .int .i64 (p.c 9), .int .i64 (p.c 10), .int .i64 (p.c 11), .int .i64 (p.c 12), .int .i64 (p.c 13), .int .i64 p.now, .int .i64 p.mode, .int .i64 p.nc, .int .i64 p.nt, .slice a.C p.cs.length a.cc, .slice a.A p.x.s.ss.length a.ca, .int .i64 p.x.s.f, .int .i64 p.x.s.l, .int .i64 p.x.s.r, .int .i64 p.x.s.c, .slice a.B p.x.ds.length a.cb, .int .i64 p.x.q, .int .i64 p.b.state, .slice a.F p.b.fails.length a.fc, .int .i64 p.b.till, .int .i64 p.fails, .int .i64 p.redial, .int .i64 p.drain]) (by kernel_rfl) HT.out (fun _ => ?_)
  refine wpAnyH_take (i := 0) (v := .agg #[.int .i64 (p.c 0), .int .i64 (p.c 1), .int .i64 (p.c 2), .int .i64 (p.c 3), .int .i64 (p.c 4), .int .i64 (p.c 5), .int .i64 (p.c 6), .int .i64 (p.c 7), .int .i64 (p.c 8), .int .i64 (p.c 9), .int .i64 (p.c 10), .int .i64 (p.c 11), .int .i64 (p.c 12), .int .i64 (p.c 13), .int .i64 p.now, .int .i64 p.mode, .int .i64 p.nc, .int .i64 p.nt, .slice a4.C p.cs.length a4.cc, .slice a4.A p.x.s.ss.length a4.ca, .int .i64 p.x.s.f, .int .i64 p.x.s.l, .int .i64 p.x.s.r, .int .i64 p.x.s.c, .slice a4.B p.x.ds.length a4.cb, .int .i64 p.x.q, .int .i64 p.b.state, .slice a4.F p.b.fails.length a4.fc, .int .i64 p.b.till, .int .i64 p.fails, .int .i64 p.redial, .int .i64 p.drain]) rfl (by kernel_rfl) (by kernel_rfl) (by kernel_rfl) (fun _ _ _ h => h) (yieldsIf_load_mid rfl 38 (.tmp 5) rfl w4.heap.size 0 rfl [.int .i64 (p.c 0), .int .i64 (p.c 1), .int .i64 (p.c 2), .int .i64 (p.c 3), .int .i64 (p.c 4), .int .i64 (p.c 5), .int .i64 (p.c 6), .int .i64 (p.c 7), .int .i64 (p.c 8), .int .i64 (p.c 9), .int .i64 (p.c 10), .int .i64 (p.c 11), .int .i64 (p.c 12), .int .i64 (p.c 13), .int .i64 p.now, .int .i64 p.mode, .int .i64 p.nc, .int .i64 p.nt, .slice a4.C p.cs.length a4.cc, .slice a4.A p.x.s.ss.length a4.ca, .int .i64 p.x.s.f, .int .i64 p.x.s.l, .int .i64 p.x.s.r, .int .i64 p.x.s.c, .slice a4.B p.x.ds.length a4.cb, .int .i64 p.x.q, .int .i64 p.b.state, .slice a4.F p.b.fails.length a4.fc, .int .i64 p.b.till, .int .i64 p.fails, .int .i64 p.redial, .int .i64 p.drain] _ (fun V hS => bx_range hS.x) Try.underlying38 rfl (by kernel_rfl)) HT.out ?_
  go_simp
  refine wpAnyH_take (i := 1) (v := .agg #[.int .i64 (p.c 0), .int .i64 (p.c 1), .int .i64 (p.c 2), .int .i64 (p.c 3), .int .i64 (p.c 4), .int .i64 (p.c 5), .int .i64 (p.c 6), .int .i64 (p.c 7), .int .i64 (p.c 8), .int .i64 (p.c 9), .int .i64 (p.c 10), .int .i64 (p.c 11), .int .i64 (p.c 12), .int .i64 (p.c 13), .int .i64 p.now, .int .i64 p.mode, .int .i64 p.nc, .int .i64 p.nt, .slice a.C p.cs.length a.cc, .slice a.A p.x.s.ss.length a.ca, .int .i64 p.x.s.f, .int .i64 p.x.s.l, .int .i64 p.x.s.r, .int .i64 p.x.s.c, .slice a.B p.x.ds.length a.cb, .int .i64 p.x.q, .int .i64 p.b.state, .slice a.F p.b.fails.length a.fc, .int .i64 p.b.till, .int .i64 p.fails, .int .i64 p.redial, .int .i64 p.drain]) rfl (by kernel_rfl) (by kernel_rfl) (by kernel_rfl) (fun _ _ _ h => h) (yieldsIf_load_mid rfl 56 (.tmp 1) rfl w.heap.size 0 rfl [.int .i64 (p.c 0), .int .i64 (p.c 1), .int .i64 (p.c 2), .int .i64 (p.c 3), .int .i64 (p.c 4), .int .i64 (p.c 5), .int .i64 (p.c 6), .int .i64 (p.c 7), .int .i64 (p.c 8), .int .i64 (p.c 9), .int .i64 (p.c 10), .int .i64 (p.c 11), .int .i64 (p.c 12), .int .i64 (p.c 13), .int .i64 p.now, .int .i64 p.mode, .int .i64 p.nc, .int .i64 p.nt, .slice a.C p.cs.length a.cc, .slice a.A p.x.s.ss.length a.ca, .int .i64 p.x.s.f, .int .i64 p.x.s.l, .int .i64 p.x.s.r, .int .i64 p.x.s.c, .slice a.B p.x.ds.length a.cb, .int .i64 p.x.q, .int .i64 p.b.state, .slice a.F p.b.fails.length a.fc, .int .i64 p.b.till, .int .i64 p.fails, .int .i64 p.redial, .int .i64 p.drain] _ (fun V hS => bx_range hS.a) Try.underlying56 rfl (by kernel_rfl)) HT.out ?_
  go_simp
  refine wpAnyH_ready (rs := [2]) (by kernel_rfl) (by simp) (AllReadyH.cons rfl (fun J hJ => ?_) AllReadyH.nil)
  go_simp
  refine (toPool_any a p w6.drew Hf.out (HL.out.below B1.out.drew)).mono ?_
  rintro e w7 ⟨R7, a7, rfl, v7, r7, b7'⟩
  have V7 := Lib.hid v7
  have b7 := bel_of_drew b7'
  have s7 := b7.size
  have HT7 := Lib.hid (HT.out.below b7')
  replace VX := Lib.hid (VX.out.below b7 (r4.wide (Nat.zero_le _) (by omega)))
  replace B1 := Lib.hid (bel_trans B1.out b7)
  clear b7 b7' v7 HT K KX
  refine hJ.out _ _ HT7.out (fun _ => ?_)
  clear hJ J
  go_simp
  refine wpAnyH_ready (rs := [3]) (by kernel_rfl) (by simp) (AllReadyH.cons rfl (fun J hJ => ?_) AllReadyH.nil)
  go_simp
  refine (eqPool_same a4 a7 p R4 R7 w7 Hf.out VX.out V7.out (r4.wide (Nat.zero_le _) (by omega)) (r7.wide (Nat.zero_le _) (Nat.le_refl _))).mono ?_
  rintro e w8 ⟨rfl, b8⟩
  have HT8 := Lib.hid (HT7.out.below b8)
  replace B1 := Lib.hid (bel_trans B1.out b8)
  clear b8 V7 HT7 r7
  refine hJ.out _ _ HT8.out (fun _ => ?_)
  clear hJ J
  go_simp
  refine wpAnyH_ready (rs := [4]) (by kernel_rfl) (by simp) (AllReadyH.cons rfl (fun J hJ => ?_) AllReadyH.nil)
  go_simp
  refine hJ.out _ _ HT8.out (fun _ => ?_)
  refine wpAnyH_done (by kernel_rfl) ?_ _
  clear HT8
  go_wp2
  go_ret
  exact ⟨rfl, B1.out⟩
end Go.Proofs.Ytehdbdolhkflcaa.Po
