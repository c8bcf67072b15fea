/- The event that the model draws. -/
import Derived.Test.YtcgmeindiaaokaaDoorBdV
import Derived.Test.YtcgmeindiaaokaaDoorDraw2
namespace Go.Proofs.YtcgmeindiaaokaaDoor.By
open Go.RowKit Go.Deep Base Rw

theorem cur_of_block {w w' : World} {g n cap : Nat} {A : Option Addr} {zs : List Int} (h : Draw.Cur w g A n cap zs) (e : ∀ k, k ≤ g → w'.heap[k]? = w.heap[k]?) : Draw.Cur w' g A n cap zs := by
  obtain ⟨i, hh, c⟩ := h
  exact ⟨i, hh, (e g (Nat.le_refl _)).trans c.blk, c.bytes.keep (fun b o hb => World.cell?_of_block (e b (by omega))), c.len, c.small, c.pos, c.le⟩
theorem cur_below {w w' : World} {g n cap : Nat} {A : Option Addr} {zs : List Int} (h : Draw.Cur w g A n cap zs) (hb : Below w.heap.size w w') : Draw.Cur w' g A n cap zs := by
  have hl := h.lt
  exact cur_of_block h fun k hk => hb.block k (by omega)
theorem set_block (w : World) (b o k : Nat) (v : Value) (h : k ≠ b) : (w.setCell ⟨b, o, none⟩ v).heap[k]? = w.heap[k]? := Below.heap_setCell w _ v k h
theorem grown_set_new {w w' : World} {row : Option Nat} (h : w.grownBy w' row) {b : Nat} (hb : w.heap.size ≤ b) (o : Nat) (v : Value) : w.grownBy (w'.setCell ⟨b, o, none⟩ v) row :=
  ⟨h.os, h.tape, h.output, by have := h.size; simp [World.setCell]; exact this, fun k hk hne => (set_block w' b o k v (by omega)).trans (h.block k hk hne)⟩
/-- A box of an event. -/
structure Bv (w : World) (b : Nat) (s : Ev) : Prop where
  blk : w.heap[b]? = some (.cells #[.int .i64 s.1, .int .i64 s.2.1, .int .i64 s.2.2] 41 (0, 0))
theorem Bv.new (w : World) (s : Ev) : Bv (w.alloc (.cells #[.int .i64 s.1, .int .i64 s.2.1, .int .i64 s.2.2] 41)) w.heap.size s := ⟨heap_alloc_new w _⟩
theorem Bv.lt {w : World} {b : Nat} {s : Ev} (h : Bv w b s) : b < w.heap.size := (Array.getElem?_eq_some_iff.1 h.blk).1
theorem Bv.below {w w' : World} {b : Nat} {s : Ev} (h : Bv w b s) (hb : Below w.heap.size w w') : Bv w' b s := ⟨(hb.block b h.lt).trans h.blk⟩
theorem Bv.grown {w w' : World} {b g : Nat} {s : Ev} (h : Bv w b s) (hg : w.grownBy w' (some g)) (hne : g < b) : Bv w' b s := ⟨(hg.block b h.lt (fun e => by injection e; omega)).trans h.blk⟩
theorem Bv.far {w : World} {b c o : Nat} {s : Ev} (h : Bv w b s) (hne : b ≠ c) (v : Value) : Bv (w.setCell ⟨c, o, none⟩ v) b s := ⟨(set_block w c o b v hne).trans h.blk⟩
theorem Bv.cells {w : World} {b : Nat} {s : Ev} (h : Bv w b s) : w.cell? ⟨b, 0, none⟩ = some (.int .i64 s.1) ∧ w.cell? ⟨b, 1, none⟩ = some (.int .i64 s.2.1) ∧ w.cell? ⟨b, 2, none⟩ = some (.int .i64 s.2.2) ∧ w.frozen? ⟨b, 0, none⟩ = false ∧ w.frozen? ⟨b, 1, none⟩ = false ∧ w.frozen? ⟨b, 2, none⟩ = false := by
  refine ⟨?_, ?_, ?_, ?_, ?_, ?_⟩ <;> simp [World.cell?, World.frozen?, h.blk]
theorem Bv.set0 {w : World} {b : Nat} {x y z : Int} (h : Bv w b (x, y, z)) (v : Int) : Bv (w.setCell ⟨b, 0, none⟩ (.int .i64 v)) b (v, y, z) := ⟨by simp [World.setCell, Array.getElem?_modify, h.blk]⟩
theorem Bv.set1 {w : World} {b : Nat} {x y z : Int} (h : Bv w b (x, y, z)) (v : Int) : Bv (w.setCell ⟨b, 1, none⟩ (.int .i64 v)) b (x, v, z) := ⟨by simp [World.setCell, Array.getElem?_modify, h.blk]⟩
theorem Bv.set2 {w : World} {b : Nat} {x y z : Int} (h : Bv w b (x, y, z)) (v : Int) : Bv (w.setCell ⟨b, 2, none⟩ (.int .i64 v)) b (x, y, v) := ⟨by simp [World.setCell, Array.getElem?_modify, h.blk]⟩
theorem Bv.put {w : World} {b : Nat} {s : Ev} (h : Bv w b s) (x y z : Int) : ∃ W', ((w.setCell ⟨b, 0, none⟩ (.int .i64 x)).setCell ⟨b, 1, none⟩ (.int .i64 y)).setCell ⟨b, 2, none⟩ (.int .i64 z) = W' ∧ Bv W' b (x, y, z) ∧
    (∀ k, k ≠ b → W'.heap[k]? = w.heap[k]?) ∧ W'.heap.size = w.heap.size ∧ ∀ {V : World} {row : Option Nat}, V.grownBy w row → V.heap.size ≤ b → V.grownBy W' row :=
  ⟨_, rfl, (((show Bv w b (s.1, s.2.1, s.2.2) from h).set0 x).set1 y).set2 z, fun k hk => (set_block _ _ _ _ _ hk).trans ((set_block _ _ _ _ _ hk).trans (set_block _ _ _ _ _ hk)), by simp [World.setCell], fun hg hb => grown_set_new (grown_set_new (grown_set_new hg hb _ _) hb _ _) hb _ _⟩

/-- An event is drawn. -/
def DrawnE (g : Nat) (A : Option Addr) (n cap : Nat) (zs : List Int) (w : World) (e : Ending) (w' : World) : Prop :=
  ∃ s : Ev, e = .returned (aggE s) ∧ Draw.Cur w' g A n cap zs ∧ w.grownBy w' (some g)

set_option maxRecDepth 100000 in
set_option maxHeartbeats 4000000 in
theorem drawEvent_any (g : Nat) (A : Option Addr) (n cap : Nat) (zs : List Int) (w : World) (hc : Draw.Cur w g A n cap zs) :
    Calls Tryd.prog 44 #[.pointer (some ⟨g, 0, none⟩)] w (DrawnE g A n cap zs w) := by
  have hgl : g < w.heap.size := hc.lt
  have C0 := Lib.hid (hc.alloc (.cells #[.int .i64 0, .int .i64 0, .int .i64 0] 41))
  have R0 := Lib.hid (Bv.new w (0, 0, 0))
  have G0 := Lib.hid (Draw.grown_alloc w (.cells #[.int .i64 0, .int .i64 0, .int .i64 0] 41) (some g))
  clear hc
  go_enter Tryd.func44, Tryd.ntmps44
  go_wp2_with fail
  generalize w.alloc (.cells #[.int .i64 0, .int .i64 0, .int .i64 0] 41) = W0 at C0 R0 G0 ⊢
  refine (Draw.below_any g A n cap zs 12 _ C0.out).mono ?_
  rintro e w1 ⟨x, rfl, hx, hc1, hg1⟩
  replace R0 := Lib.hid (R0.out.grown hg1 hgl)
  replace G0 := Lib.hid (Draw.grown_then G0.out hg1)
  replace C0 := Lib.hid hc1
  clear hc1 hg1
  go_wp2_with fail
  refine (Draw.below_any g A n cap zs 300 _ C0.out).mono ?_
  rintro e w2 ⟨y, rfl, hy, hc1, hg1⟩
  replace R0 := Lib.hid (R0.out.grown hg1 hgl)
  replace G0 := Lib.hid (Draw.grown_then G0.out hg1)
  replace C0 := Lib.hid hc1
  clear hc1 hg1
  go_wp2_with fail
  refine (Draw.below_any g A n cap zs 300 _ C0.out).mono ?_
  rintro e w3 ⟨z, rfl, hz, hc1, hg1⟩
  replace R0 := Lib.hid (R0.out.grown hg1 hgl)
  replace G0 := Lib.hid (Draw.grown_then G0.out hg1)
  replace C0 := Lib.hid hc1
  clear hc1 hg1
  clear hx hy hz
  have X0 := Lib.hid (Bv.new w3 (x, y, z))
  have hge : g < w3.heap.size := C0.out.lt
  have hre : w.heap.size < w3.heap.size := R0.out.lt
  have A3 := Lib.hid (bel_alloc w3 (.cells #[.int .i64 x, .int .i64 y, .int .i64 z] 41))
  replace R0 := Lib.hid (R0.out.below A3.out)
  replace C0 := Lib.hid (C0.out.alloc (.cells #[.int .i64 x, .int .i64 y, .int .i64 z] 41))
  replace G0 := Lib.hid (Draw.grown_then G0.out (Draw.grown_alloc w3 (.cells #[.int .i64 x, .int .i64 y, .int .i64 z] 41) (some g)))
  go_wp2_with fail
  generalize w3.alloc (.cells #[.int .i64 x, .int .i64 y, .int .i64 z] 41) = W4 at C0 R0 G0 X0 A3 ⊢
  refine (Draw.once_any g A n cap zs 10 _ C0.out).mono ?_
  rintro e w5 ⟨b, rfl, hc1, hg1⟩
  replace R0 := Lib.hid (R0.out.grown hg1 hgl)
  replace X0 := Lib.hid (X0.out.grown hg1 hge)
  replace G0 := Lib.hid (Draw.grown_then G0.out hg1)
  replace C0 := Lib.hid hc1
  clear hc1 hg1
  clear A3
  cases b
  · skip
    obtain ⟨u0, u1, u2, _, _, _⟩ := X0.out.cells
    obtain ⟨r0, r1, r2, f0, f1, f2⟩ := R0.out.cells
    obtain ⟨W', hW', hB, hk, hsz, hgr⟩ := R0.out.put x y z
    obtain ⟨q0, q1, q2, _, _, _⟩ := hB.cells
    have C' := Lib.hid (cur_of_block C0.out (fun k hk' => hk k (by omega)))
    have G' := Lib.hid (hgr G0.out (Nat.le_refl _))
    clear hB hk hgr C0 G0 R0 X0
    go_wp2
    refine bodyPost_ret (v := aggE (x, y, z)) (by simp [results, Tryd.results44, go_sem, q0, q1, q2]) rfl ?_
    exact ⟨_, rfl, C'.out, G'.out⟩
  · go_wp2_with fail
    refine (Draw.below_any g A n cap zs 3 _ C0.out).mono ?_
    rintro e w6 ⟨k, rfl, hk, hc1, hg1⟩
    replace R0 := Lib.hid (R0.out.grown hg1 hgl)
    replace X0 := Lib.hid (X0.out.grown hg1 hge)
    replace G0 := Lib.hid (Draw.grown_then G0.out hg1)
    replace C0 := Lib.hid hc1
    clear hc1 hg1
    obtain ⟨k0, k1⟩ := hk.2 (by omega)
    clear hk
    have hk3 : k = 0 ∨ k = 1 ∨ k = 2 := by omega
    rcases hk3 with rfl | rfl | rfl
    · have A6 := Lib.hid (bel_alloc w6 (.cells #[.int .i64 (-1), .int .i64 12] 3))
      have h0 : w6.heap.size ≠ g := by have := C0.out.lt; omega
      have P6 : Hid (∀ i, i < 2 → (w6.alloc (.cells #[.int .i64 (-1), .int .i64 12] 3)).cell? ⟨w6.heap.size, i, none⟩ = some (.int .i64 (([-1, 12] : List Int).getD i 0))) := fun i hi => Draw.new_cells w6 [-1, 12] 3 i hi
      replace R0 := Lib.hid (R0.out.below A6.out)
      replace X0 := Lib.hid (X0.out.below A6.out)
      replace C0 := Lib.hid (C0.out.alloc (.cells #[.int .i64 (-1), .int .i64 12] 3))
      replace G0 := Lib.hid (Draw.grown_then G0.out (Draw.grown_alloc w6 (.cells #[.int .i64 (-1), .int .i64 12] 3) (some g)))
      clear A6
      go_wp2_with fail
      refine (Draw.pick_any g A n cap zs w6.heap.size 2 2 [-1, 12] _ C0.out h0 rfl (by omega) (by omega) P6.out).mono ?_
      rintro e w7 ⟨v, rfl, hv, hc1, hg1⟩
      replace R0 := Lib.hid (R0.out.grown hg1 hgl)
      replace X0 := Lib.hid (X0.out.grown hg1 hge)
      replace G0 := Lib.hid (Draw.grown_then G0.out hg1)
      replace C0 := Lib.hid hc1
      clear hc1 hg1
      clear hv
      obtain ⟨t0, t1, t2, e0, e1, e2⟩ := X0.out.cells
      replace R0 := Lib.hid (R0.out.far (c := w3.heap.size) (o := 0) (by omega) (.int .i64 v))
      replace C0 := Lib.hid (cur_of_block C0.out (w' := w7.setCell ⟨w3.heap.size, 0, none⟩ (.int .i64 v)) (fun k hk => set_block _ _ _ _ _ (by omega)))
      replace G0 := Lib.hid (grown_set_new G0.out (b := w3.heap.size) (by omega) 0 (.int .i64 v))
      replace X0 := Lib.hid (X0.out.set0 v)
      obtain ⟨W7, hW7⟩ : ∃ W7, w7.setCell ⟨w3.heap.size, 0, none⟩ (.int .i64 v) = W7 := ⟨_, rfl⟩
      rw [hW7] at R0 C0 G0 X0
      have zz := R0.out.lt
      obtain ⟨u0, u1, u2, _, _, _⟩ := X0.out.cells
      obtain ⟨r0, r1, r2, f0, f1, f2⟩ := R0.out.cells
      obtain ⟨W', hW', hB, hk, hsz, hgr⟩ := R0.out.put v y z
      obtain ⟨q0, q1, q2, _, _, _⟩ := hB.cells
      have C' := Lib.hid (cur_of_block C0.out (fun k hk' => hk k (by omega)))
      have G' := Lib.hid (hgr G0.out (Nat.le_refl _))
      clear hB hk hgr C0 G0 R0 X0
      go_wp2
      refine bodyPost_ret (v := aggE (v, y, z)) (by simp [results, Tryd.results44, go_sem, q0, q1, q2]) rfl ?_
      exact ⟨_, rfl, C'.out, G'.out⟩
    · go_wp2_with fail
      refine (Draw.drawAny_any g A n cap zs _ C0.out).mono ?_
      rintro e w7 ⟨v, rfl, hv, hc1, hg1⟩
      replace R0 := Lib.hid (R0.out.grown hg1 hgl)
      replace X0 := Lib.hid (X0.out.grown hg1 hge)
      replace G0 := Lib.hid (Draw.grown_then G0.out hg1)
      replace C0 := Lib.hid hc1
      clear hc1 hg1
      clear hv
      obtain ⟨t0, t1, t2, e0, e1, e2⟩ := X0.out.cells
      replace R0 := Lib.hid (R0.out.far (c := w3.heap.size) (o := 1) (by omega) (.int .i64 v))
      replace C0 := Lib.hid (cur_of_block C0.out (w' := w7.setCell ⟨w3.heap.size, 1, none⟩ (.int .i64 v)) (fun k hk => set_block _ _ _ _ _ (by omega)))
      replace G0 := Lib.hid (grown_set_new G0.out (b := w3.heap.size) (by omega) 1 (.int .i64 v))
      replace X0 := Lib.hid (X0.out.set1 v)
      obtain ⟨W7, hW7⟩ : ∃ W7, w7.setCell ⟨w3.heap.size, 1, none⟩ (.int .i64 v) = W7 := ⟨_, rfl⟩
      rw [hW7] at R0 C0 G0 X0
      have zz := R0.out.lt
      obtain ⟨u0, u1, u2, _, _, _⟩ := X0.out.cells
      obtain ⟨r0, r1, r2, f0, f1, f2⟩ := R0.out.cells
      obtain ⟨W', hW', hB, hk, hsz, hgr⟩ := R0.out.put x v z
      obtain ⟨q0, q1, q2, _, _, _⟩ := hB.cells
      have C' := Lib.hid (cur_of_block C0.out (fun k hk' => hk k (by omega)))
      have G' := Lib.hid (hgr G0.out (Nat.le_refl _))
      clear hB hk hgr C0 G0 R0 X0
      go_wp2
      refine bodyPost_ret (v := aggE (x, v, z)) (by simp [results, Tryd.results44, go_sem, q0, q1, q2]) rfl ?_
      exact ⟨_, rfl, C'.out, G'.out⟩
    · go_wp2_with fail
      refine (Draw.drawAny_any g A n cap zs _ C0.out).mono ?_
      rintro e w7 ⟨v, rfl, hv, hc1, hg1⟩
      replace R0 := Lib.hid (R0.out.grown hg1 hgl)
      replace X0 := Lib.hid (X0.out.grown hg1 hge)
      replace G0 := Lib.hid (Draw.grown_then G0.out hg1)
      replace C0 := Lib.hid hc1
      clear hc1 hg1
      clear hv
      obtain ⟨t0, t1, t2, e0, e1, e2⟩ := X0.out.cells
      replace R0 := Lib.hid (R0.out.far (c := w3.heap.size) (o := 2) (by omega) (.int .i64 v))
      replace C0 := Lib.hid (cur_of_block C0.out (w' := w7.setCell ⟨w3.heap.size, 2, none⟩ (.int .i64 v)) (fun k hk => set_block _ _ _ _ _ (by omega)))
      replace G0 := Lib.hid (grown_set_new G0.out (b := w3.heap.size) (by omega) 2 (.int .i64 v))
      replace X0 := Lib.hid (X0.out.set2 v)
      obtain ⟨W7, hW7⟩ : ∃ W7, w7.setCell ⟨w3.heap.size, 2, none⟩ (.int .i64 v) = W7 := ⟨_, rfl⟩
      rw [hW7] at R0 C0 G0 X0
      have zz := R0.out.lt
      obtain ⟨u0, u1, u2, _, _, _⟩ := X0.out.cells
      obtain ⟨r0, r1, r2, f0, f1, f2⟩ := R0.out.cells
      obtain ⟨W', hW', hB, hk, hsz, hgr⟩ := R0.out.put x y v
      obtain ⟨q0, q1, q2, _, _, _⟩ := hB.cells
      have C' := Lib.hid (cur_of_block C0.out (fun k hk' => hk k (by omega)))
      have G' := Lib.hid (hgr G0.out (Nat.le_refl _))
      clear hB hk hgr C0 G0 R0 X0
      go_wp2
      refine bodyPost_ret (v := aggE (x, y, v)) (by simp [results, Tryd.results44, go_sem, q0, q1, q2]) rfl ?_
      exact ⟨_, rfl, C'.out, G'.out⟩
end Go.Proofs.YtcgmeindiaaokaaDoor.By
