/- The program's StepConn: the deferred function that recovers; stepped; StepConn. -/
import Derived.Test.YtbmfleakldhabaaDoorKnA
import Derived.Tactics
import Derived.Tactics2
import Derived.Defers
import Derived.Recover
import Derived.Laws.Pointers
namespace Go.Proofs.YtbmfleakldhabaaDoor.Kn
open Go.RowKit Go.Deep Base Tick Rw

set_option maxRecDepth 100000 in
set_option maxHeartbeats 1000000 in
theorem catch_panicking (bc br bf : Nat) (k : Nat → Int) (t x : Bool) (u : TypeId) (pv : Value) (older : List PanicEntry) (w : World) (hk : KC bc k t w) (hz : ZB br w) (hf : w.cell? ⟨bf, 0, none⟩ = some (.bool x)) (hff : w.frozen? ⟨bf, 0, none⟩ = false) (hn1 : ¬ bf = br) :
    CallsD Tryd.prog 52 #[.pointer (some ⟨bc, 0, none⟩), .pointer (some ⟨br, 0, none⟩), .pointer (some ⟨bf, 0, none⟩)] (.panicking ({ v := .iface u pv, recovered := false } :: older)) w fun e u' w' =>
      e = .returned (.tuple #[]) ∧ u' = .panicking ({ v := .iface u pv, recovered := true } :: older) ∧ w' = (((((((w.setCell ⟨br, 0, none⟩ (.int .i64 (k 0))).setCell ⟨br, 1, none⟩ (.int .i64 (k 1))).setCell ⟨br, 2, none⟩ (.int .i64 (k 2))).setCell ⟨br, 3, none⟩ (.int .i64 (k 3))).setCell ⟨br, 4, none⟩ (.int .i64 (k 4))).setCell ⟨br, 5, none⟩ (.bool t)).setCell ⟨bf, 0, none⟩ (.bool false)) := by
  obtain ⟨c0, c1, c2, c3, c4, c5⟩ := hk
  obtain ⟨z0, z1, z2, z3, z4, z5, zf⟩ := hz.cells
  refine callsD_of_wpS Tryd.func52 rfl fun c₀ cs hu => ?_
  apply wpS_seq
  apply wpS_region
  simp [wpOpsS, go_sem, recoverD, hu, Tryd.ntmps52, Exit.thenS]
  refine wpS_cond (t := true) (by simp [Act.eval, Array.replicate]) ?_
  simp only [if_true]
  apply wpS_region
  simp [wpOpsS, go_sem, c0, c1, c2, c3, c4, c5, z0, z1, z2, z3, z4, z5, zf, hf, hff, bodyPostS, results, Tryd.results52]

theorem catch_idle (bc br bf : Nat) (w : World) :
    CallsD Tryd.prog 52 #[.pointer (some ⟨bc, 0, none⟩), .pointer (some ⟨br, 0, none⟩), .pointer (some ⟨bf, 0, none⟩)] .returning w fun e u' w' => e = .returned (.tuple #[]) ∧ u' = .returning ∧ w' = w := by
  refine callsD_of_wpS Tryd.func52 rfl fun c₀ cs hu => ?_
  apply wpS_seq
  apply wpS_region
  simp [wpOpsS, go_sem, recoverD, hu, Tryd.ntmps52, Exit.thenS]
  refine wpS_cond (t := false) (by simp [Act.eval, Array.replicate]) ?_
  simp only [Bool.false_eq_true, if_false]
  refine wpS_of_wp (wp_skip ?_)
  cases c₀
  simp_all [bodyPostS, results, Tryd.results52]
/-- Where stepped keeps what: the connection that came in, the two results, the step. -/
structure Laid (k : Nat → Int) (t : Bool) (now n : Int) (p : Addr) (w W : World) : Prop where
  old : Below w.heap.size w W
  kc : KC w.heap.size k t W
  zb : ZB (w.heap.size + 1) W
  bf : W.heap[w.heap.size + 2]? = some (.cells #[.bool false] 4 (0, 0))
  sc : SC (w.heap.size + 3) (k 0) (k 1) (k 2) (k 3) (k 4) t now n W
  er : Er p W

theorem laid_new (k : Nat → Int) (t : Bool) (now n : Int) (p : Addr) (w : World) (he : Er p w) : Laid k t now n p w ((((w.alloc (.cells #[.int .i64 (k 0), .int .i64 (k 1), .int .i64 (k 2), .int .i64 (k 3), .int .i64 (k 4), .bool t] 28)).alloc (.cells #[.int .i64 0, .int .i64 0, .int .i64 0, .int .i64 0, .int .i64 0, .bool false] 28)).alloc (.cells #[.bool false] 4)).alloc (.cells #[.int .i64 (k 0), .int .i64 (k 1), .int .i64 (k 2), .int .i64 (k 3), .int .i64 (k 4), .bool t, .int .i64 now, .int .i64 n] 77)) := by
  have q1 := bel_alloc w (.cells #[.int .i64 (k 0), .int .i64 (k 1), .int .i64 (k 2), .int .i64 (k 3), .int .i64 (k 4), .bool t] 28)
  have q2 := bel_trans q1 (bel_alloc _ (.cells #[.int .i64 0, .int .i64 0, .int .i64 0, .int .i64 0, .int .i64 0, .bool false] 28))
  have q3 := bel_trans q2 (bel_alloc _ (.cells #[.bool false] 4))
  have q4 := bel_trans q3 (bel_alloc _ (.cells #[.int .i64 (k 0), .int .i64 (k 1), .int .i64 (k 2), .int .i64 (k 3), .int .i64 (k 4), .bool t, .int .i64 now, .int .i64 n] 77))
  have r2 : ((w.alloc (.cells #[.int .i64 (k 0), .int .i64 (k 1), .int .i64 (k 2), .int .i64 (k 3), .int .i64 (k 4), .bool t] 28)).alloc (.cells #[.int .i64 0, .int .i64 0, .int .i64 0, .int .i64 0, .int .i64 0, .bool false] 28)).heap[w.heap.size + 1]? = some (.cells #[.int .i64 0, .int .i64 0, .int .i64 0, .int .i64 0, .int .i64 0, .bool false] 28 (0, 0)) := by
    have := heap_alloc_new (w.alloc (.cells #[.int .i64 (k 0), .int .i64 (k 1), .int .i64 (k 2), .int .i64 (k 3), .int .i64 (k 4), .bool t] 28)) (.cells #[.int .i64 0, .int .i64 0, .int .i64 0, .int .i64 0, .int .i64 0, .bool false] 28)
    rw [World.size_alloc] at this
    exact this
  have r3 : (((w.alloc (.cells #[.int .i64 (k 0), .int .i64 (k 1), .int .i64 (k 2), .int .i64 (k 3), .int .i64 (k 4), .bool t] 28)).alloc (.cells #[.int .i64 0, .int .i64 0, .int .i64 0, .int .i64 0, .int .i64 0, .bool false] 28)).alloc (.cells #[.bool false] 4)).heap[w.heap.size + 2]? = some (.cells #[.bool false] 4 (0, 0)) := by
    have := heap_alloc_new ((w.alloc (.cells #[.int .i64 (k 0), .int .i64 (k 1), .int .i64 (k 2), .int .i64 (k 3), .int .i64 (k 4), .bool t] 28)).alloc (.cells #[.int .i64 0, .int .i64 0, .int .i64 0, .int .i64 0, .int .i64 0, .bool false] 28)) (.cells #[.bool false] 4)
    rw [World.size_alloc, World.size_alloc] at this
    exact this
  have r4 : ((((w.alloc (.cells #[.int .i64 (k 0), .int .i64 (k 1), .int .i64 (k 2), .int .i64 (k 3), .int .i64 (k 4), .bool t] 28)).alloc (.cells #[.int .i64 0, .int .i64 0, .int .i64 0, .int .i64 0, .int .i64 0, .bool false] 28)).alloc (.cells #[.bool false] 4)).alloc (.cells #[.int .i64 (k 0), .int .i64 (k 1), .int .i64 (k 2), .int .i64 (k 3), .int .i64 (k 4), .bool t, .int .i64 now, .int .i64 n] 77)).heap[w.heap.size + 3]? = some (.cells #[.int .i64 (k 0), .int .i64 (k 1), .int .i64 (k 2), .int .i64 (k 3), .int .i64 (k 4), .bool t, .int .i64 now, .int .i64 n] 77 (0, 0)) := by
    have := heap_alloc_new (((w.alloc (.cells #[.int .i64 (k 0), .int .i64 (k 1), .int .i64 (k 2), .int .i64 (k 3), .int .i64 (k 4), .bool t] 28)).alloc (.cells #[.int .i64 0, .int .i64 0, .int .i64 0, .int .i64 0, .int .i64 0, .bool false] 28)).alloc (.cells #[.bool false] 4)) (.cells #[.int .i64 (k 0), .int .i64 (k 1), .int .i64 (k 2), .int .i64 (k 3), .int .i64 (k 4), .bool t, .int .i64 now, .int .i64 n] 77)
    rw [World.size_alloc, World.size_alloc, World.size_alloc] at this
    exact this
  refine ⟨q4, (((KC.new k t w 28).below (bel_alloc _ _)).below (bel_alloc _ _)).below (bel_alloc _ _), ?_, ?_, ?_, he.below q4⟩
  · exact (((bel_alloc _ _).block _ (by simp)).trans ((bel_alloc _ _).block _ (by simp))).trans r2
  · exact ((bel_alloc _ _).block _ (by simp)).trans r3
  · exact ⟨cell_of_row _ _ 0 _ _ (0, 0) r4, cell_of_row _ _ 1 _ _ (0, 0) r4, cell_of_row _ _ 2 _ _ (0, 0) r4, cell_of_row _ _ 3 _ _ (0, 0) r4, cell_of_row _ _ 4 _ _ (0, 0) r4, cell_of_row _ _ 5 _ _ (0, 0) r4, cell_of_row _ _ 6 _ _ (0, 0) r4, cell_of_row _ _ 7 _ _ (0, 0) r4, fun j => frozen_of_row _ _ j _ _ r4⟩

/-- What the results' cells read when stepped has laid them, and that nothing that was there has turned. -/
theorem laid_read {w V : World} (hz : ZB (w.heap.size + 1) V) (hf : V.heap[w.heap.size + 2]? = some (.cells #[.bool false] 4 (0, 0))) (hb : Below w.heap.size w V) (v0 v1 v2 v3 v4 v5 v6 : Value) :
    (((((((V.setCell ⟨w.heap.size + 1, 0, none⟩ v0).setCell ⟨w.heap.size + 1, 1, none⟩ v1).setCell ⟨w.heap.size + 1, 2, none⟩ v2).setCell ⟨w.heap.size + 1, 3, none⟩ v3).setCell ⟨w.heap.size + 1, 4, none⟩ v4).setCell ⟨w.heap.size + 1, 5, none⟩ v5).setCell ⟨w.heap.size + 2, 0, none⟩ v6).cell? ⟨w.heap.size + 1, 0, none⟩ = some v0 ∧ (((((((V.setCell ⟨w.heap.size + 1, 0, none⟩ v0).setCell ⟨w.heap.size + 1, 1, none⟩ v1).setCell ⟨w.heap.size + 1, 2, none⟩ v2).setCell ⟨w.heap.size + 1, 3, none⟩ v3).setCell ⟨w.heap.size + 1, 4, none⟩ v4).setCell ⟨w.heap.size + 1, 5, none⟩ v5).setCell ⟨w.heap.size + 2, 0, none⟩ v6).cell? ⟨w.heap.size + 1, 1, none⟩ = some v1 ∧ (((((((V.setCell ⟨w.heap.size + 1, 0, none⟩ v0).setCell ⟨w.heap.size + 1, 1, none⟩ v1).setCell ⟨w.heap.size + 1, 2, none⟩ v2).setCell ⟨w.heap.size + 1, 3, none⟩ v3).setCell ⟨w.heap.size + 1, 4, none⟩ v4).setCell ⟨w.heap.size + 1, 5, none⟩ v5).setCell ⟨w.heap.size + 2, 0, none⟩ v6).cell? ⟨w.heap.size + 1, 2, none⟩ = some v2 ∧ (((((((V.setCell ⟨w.heap.size + 1, 0, none⟩ v0).setCell ⟨w.heap.size + 1, 1, none⟩ v1).setCell ⟨w.heap.size + 1, 2, none⟩ v2).setCell ⟨w.heap.size + 1, 3, none⟩ v3).setCell ⟨w.heap.size + 1, 4, none⟩ v4).setCell ⟨w.heap.size + 1, 5, none⟩ v5).setCell ⟨w.heap.size + 2, 0, none⟩ v6).cell? ⟨w.heap.size + 1, 3, none⟩ = some v3 ∧ (((((((V.setCell ⟨w.heap.size + 1, 0, none⟩ v0).setCell ⟨w.heap.size + 1, 1, none⟩ v1).setCell ⟨w.heap.size + 1, 2, none⟩ v2).setCell ⟨w.heap.size + 1, 3, none⟩ v3).setCell ⟨w.heap.size + 1, 4, none⟩ v4).setCell ⟨w.heap.size + 1, 5, none⟩ v5).setCell ⟨w.heap.size + 2, 0, none⟩ v6).cell? ⟨w.heap.size + 1, 4, none⟩ = some v4 ∧ (((((((V.setCell ⟨w.heap.size + 1, 0, none⟩ v0).setCell ⟨w.heap.size + 1, 1, none⟩ v1).setCell ⟨w.heap.size + 1, 2, none⟩ v2).setCell ⟨w.heap.size + 1, 3, none⟩ v3).setCell ⟨w.heap.size + 1, 4, none⟩ v4).setCell ⟨w.heap.size + 1, 5, none⟩ v5).setCell ⟨w.heap.size + 2, 0, none⟩ v6).cell? ⟨w.heap.size + 1, 5, none⟩ = some v5 ∧ (((((((V.setCell ⟨w.heap.size + 1, 0, none⟩ v0).setCell ⟨w.heap.size + 1, 1, none⟩ v1).setCell ⟨w.heap.size + 1, 2, none⟩ v2).setCell ⟨w.heap.size + 1, 3, none⟩ v3).setCell ⟨w.heap.size + 1, 4, none⟩ v4).setCell ⟨w.heap.size + 1, 5, none⟩ v5).setCell ⟨w.heap.size + 2, 0, none⟩ v6).cell? ⟨w.heap.size + 2, 0, none⟩ = some v6 ∧ Below w.heap.size w (((((((V.setCell ⟨w.heap.size + 1, 0, none⟩ v0).setCell ⟨w.heap.size + 1, 1, none⟩ v1).setCell ⟨w.heap.size + 1, 2, none⟩ v2).setCell ⟨w.heap.size + 1, 3, none⟩ v3).setCell ⟨w.heap.size + 1, 4, none⟩ v4).setCell ⟨w.heap.size + 1, 5, none⟩ v5).setCell ⟨w.heap.size + 2, 0, none⟩ v6) := by
  obtain ⟨z0, z1, z2, z3, z4, z5, -⟩ := hz.cells
  have f0 : V.cell? ⟨w.heap.size + 2, 0, none⟩ = some (.bool false) := cell_of_row _ _ 0 _ _ (0, 0) hf
  refine ⟨?_, ?_, ?_, ?_, ?_, ?_, ?_, ?_⟩
  iterate 7 simp [go_sem, z0, z1, z2, z3, z4, z5, f0]
  refine hb.trans ?_
  refine Below.setCell ?_ (by show w.heap.size ≤ w.heap.size + 2; omega) _
  iterate 6 refine Below.setCell ?_ (by show w.heap.size ≤ w.heap.size + 1; omega) _
  exact Below.refl _ _

set_option maxRecDepth 100000 in
set_option maxHeartbeats 4000000 in
theorem stepped_any (k : Nat → Int) (t : Bool) (e now n : Int) (p : Addr) (w : World) (he : Er p w) :
    Calls Tryd.prog 40 #[.agg #[.int .i64 (k 0), .int .i64 (k 1), .int .i64 (k 2), .int .i64 (k 3), .int .i64 (k 4), .bool t], .int .i64 e, .int .i64 now, .int .i64 n] w (StEnd k t e now n w) := by
  have hmf : ∀ (fn : Fn) (first cap : Array Value) (w : World), (Instr.makeFunc fn first cap).run Tryd.prog w = .ok (.func fn first cap) w := fun _ _ _ _ => rfl
  have HL := Lib.hid (laid_new k t now n p w he)
  clear he
  go_enter_defers Tryd.func40, Tryd.ntmps40
  go_wp2_with fail
  refine (take_any (w.heap.size + 3) k t e now n p _ HL.out.sc HL.out.er).mono ?_
  obtain ⟨W, hW⟩ : ∃ W, ((((w.alloc (.cells #[.int .i64 (k 0), .int .i64 (k 1), .int .i64 (k 2), .int .i64 (k 3), .int .i64 (k 4), .bool t] 28)).alloc (.cells #[.int .i64 0, .int .i64 0, .int .i64 0, .int .i64 0, .int .i64 0, .bool false] 28)).alloc (.cells #[.bool false] 4)).alloc (.cells #[.int .i64 (k 0), .int .i64 (k 1), .int .i64 (k 2), .int .i64 (k 3), .int .i64 (k 4), .bool t, .int .i64 now, .int .i64 n] 77)) = W := ⟨_, rfl⟩
  rw [hW] at HL ⊢
  clear hW
  rintro r w2 (⟨hc, rfl, hs, ht⟩ | ⟨hc, rfl, ht⟩)
  · have Hc := Lib.hid hc
    have hz := HL.out.zb
    have zz := HL.out.sc.lt
    have HZ : Hid (ZB (w.heap.size + 1) w2) := (ht.block _ (by omega) (.inl (by omega))).trans hz
    have HF : Hid (w2.heap[w.heap.size + 2]? = some (.cells #[.bool false] 4 (0, 0))) := (ht.block _ (by omega) (.inl (by omega))).trans HL.out.bf
    have B : Hid (Below w.heap.size w w2) := HL.out.old.trans (ht.below (by omega) (by omega))
    clear hc ht hz
    obtain ⟨s, hs1⟩ : ∃ s, toN (k 1) e = s := ⟨_, rfl⟩
    obtain ⟨b, hb1⟩ : ∃ b, (if e = 0 then now else k 2) = b := ⟨_, rfl⟩
    obtain ⟨x, hx1⟩ : ∃ x, (if e = 2 then n else 0) = x := ⟨_, rfl⟩
    rw [hs1, hb1, hx1] at hs
    have Hs1 := Lib.hid hs1
    have Hb1 := Lib.hid hb1
    have Hx1 := Lib.hid hx1
    clear hs1 hb1 hx1
    obtain ⟨h0, h1, h2, h3, h4, h5, h6, h7, h8⟩ := hs
    obtain ⟨z0, z1, z2, z3, z4, z5, zf⟩ := HZ.out.cells
    have f0 : w2.cell? ⟨w.heap.size + 2, 0, none⟩ = some (.bool false) := cell_of_row _ _ 0 _ _ (0, 0) HF.out
    have f1 : w2.frozen? ⟨w.heap.size + 2, 0, none⟩ = false := frozen_of_row _ _ 0 _ _ HF.out
    go_wp2
    refine leaves_cons (f := 52) (args := #[.pointer (some ⟨w.heap.size, 0, none⟩), .pointer (some ⟨w.heap.size + 1, 0, none⟩), .pointer (some ⟨w.heap.size + 2, 0, none⟩)]) (by simp) (by simp [go_sem]) ?_
    refine (catch_idle w.heap.size (w.heap.size + 1) (w.heap.size + 2) _).mono ?_
    rintro e' u' w'' ⟨rfl, rfl, rfl⟩
    obtain ⟨g0, g1, g2, g3, g4, g5, g6, g7⟩ := laid_read HZ.out HF.out B.out (.int .i64 (k 0)) (.int .i64 s) (.int .i64 b) (.int .i64 now) (.int .i64 x) (.bool false) (.bool true)
    refine ⟨.tuple #[.agg #[.int .i64 (k 0), .int .i64 s, .int .i64 b, .int .i64 now, .int .i64 x, .bool false], .bool true], by simp [results, Tryd.results40, go_sem, g0, g1, g2, g3, g4, g5, g6], ?_⟩
    exact st_yes Hc.out Hs1.out Hb1.out Hx1.out g7
  · have Hc := Lib.hid hc
    have zz := HL.out.sc.lt
    have HK : Hid (KC w.heap.size k t w2) := HL.out.kc.of_block (ht.block _ (by omega) (.inl (by omega)))
    have HZ : Hid (ZB (w.heap.size + 1) w2) := (ht.block _ (by omega) (.inl (by omega))).trans HL.out.zb
    have HF : Hid (w2.heap[w.heap.size + 2]? = some (.cells #[.bool false] 4 (0, 0))) := (ht.block _ (by omega) (.inl (by omega))).trans HL.out.bf
    have B : Hid (Below w.heap.size w w2) := HL.out.old.trans (ht.below (by omega) (by omega))
    clear hc ht
    have f0 : w2.cell? ⟨w.heap.size + 2, 0, none⟩ = some (.bool false) := cell_of_row _ _ 0 _ _ (0, 0) HF.out
    have f1 : w2.frozen? ⟨w.heap.size + 2, 0, none⟩ = false := frozen_of_row _ _ 0 _ _ HF.out
    refine leaves_cons (f := 52) (args := #[.pointer (some ⟨w.heap.size, 0, none⟩), .pointer (some ⟨w.heap.size + 1, 0, none⟩), .pointer (some ⟨w.heap.size + 2, 0, none⟩)]) (by simp) (by simp [go_sem]) ?_
    refine (catch_panicking w.heap.size (w.heap.size + 1) (w.heap.size + 2) k t false _ _ [] _ HK.out HZ.out f0 f1 (by omega)).mono ?_
    rintro e' u' w'' ⟨rfl, rfl, rfl⟩
    obtain ⟨g0, g1, g2, g3, g4, g5, g6, g7⟩ := laid_read HZ.out HF.out B.out (.int .i64 (k 0)) (.int .i64 (k 1)) (.int .i64 (k 2)) (.int .i64 (k 3)) (.int .i64 (k 4)) (.bool t) (.bool false)
    refine ⟨.tuple #[.agg #[.int .i64 (k 0), .int .i64 (k 1), .int .i64 (k 2), .int .i64 (k 3), .int .i64 (k 4), .bool t], .bool false], by simp [results, Tryd.results40, go_sem, g0, g1, g2, g3, g4, g5, g6], ?_⟩
    exact st_no Hc.out g7

set_option maxRecDepth 100000 in
set_option maxHeartbeats 2000000 in
theorem implStep_any (k : Nat → Int) (t : Bool) (e now n : Int) (p : Addr) (w : World) (he : Er p w) :
    Calls Tryd.prog 13 #[.agg #[.int .i64 (k 0), .int .i64 (k 1), .int .i64 (k 2), .int .i64 (k 3), .int .i64 (k 4), .bool t], .int .i64 e, .int .i64 now, .int .i64 n] w (StEnd k t e now n w) := by
  have HE : Hid (Er p ((w.alloc (.cells #[.int .i64 (k 0), .int .i64 (k 1), .int .i64 (k 2), .int .i64 (k 3), .int .i64 (k 4), .bool t] 28)).alloc (.cells #[.int .i64 0, .int .i64 0, .int .i64 0, .int .i64 0, .int .i64 0, .bool false] 28))) := he.below (two_new w _ _)
  have HZ := Lib.hid (ZB.next w (.cells #[.int .i64 (k 0), .int .i64 (k 1), .int .i64 (k 2), .int .i64 (k 3), .int .i64 (k 4), .bool t] 28))
  have B := Lib.hid (two_new w (.cells #[.int .i64 (k 0), .int .i64 (k 1), .int .i64 (k 2), .int .i64 (k 3), .int .i64 (k 4), .bool t] 28) (.cells #[.int .i64 0, .int .i64 0, .int .i64 0, .int .i64 0, .int .i64 0, .bool false] 28))
  clear he
  unfold StEnd
  have HST := Lib.hid (fun W hE => stepped_any k t e now n p W hE)
  unfold StEnd at HST
  generalize stR k t e now n = q at HST ⊢
  generalize stT k t e now n = qt at HST ⊢
  generalize canS k t e now n = qb at HST ⊢
  go_enter Tryd.func13, Tryd.ntmps13
  go_wp2_with fail
  refine (HST.out _ HE.out).mono ?_
  rintro r w1 ⟨rfl, b1⟩
  replace HZ := Lib.hid (HZ.out.below b1)
  replace B := Lib.hid (bel_trans B.out b1)
  clear b1
  obtain ⟨z0, z1, z2, z3, z4, z5, zf⟩ := HZ.out.cells
  go_wp2
  refine bodyPost_ret (v := .tuple #[.agg #[.int .i64 (q 0), .int .i64 (q 1), .int .i64 (q 2), .int .i64 (q 3), .int .i64 (q 4), .bool qt], .bool qb]) (by simp [results, go_sem, z0, z1, z2, z3, z4, z5]) rfl ⟨rfl, B.out.trans ?_⟩
  iterate 6 refine Below.setCell ?_ (by show w.heap.size ≤ w.heap.size + 1; omega) _
  exact Below.refl _ _
end Go.Proofs.YtbmfleakldhabaaDoor.Kn
