/- The laws' helpers on pools: size, a copy, the comparison of two that read alike. -/
import Derived.Test.YtehdbdolhkflcaaPmO
namespace Go.Proofs.Ytehdbdolhkflcaa.Po
open Go.RowKit Go.Deep Base Ln

theorem _root_.Go.Proofs.Ytehdbdolhkflcaa.Ln.Bx.cells32 {w : World} {g : Nat} {ty : TypeId} {v0 v1 v2 v3 v4 v5 v6 v7 v8 v9 v10 v11 v12 v13 v14 v15 v16 v17 v18 v19 v20 v21 v22 v23 v24 v25 v26 v27 v28 v29 v30 v31 : Value} (h : Bx w g ty #[v0, v1, v2, v3, v4, v5, v6, v7, v8, v9, v10, v11, v12, v13, v14, v15, v16, v17, v18, v19, v20, v21, v22, v23, v24, v25, v26, v27, v28, v29, v30, v31]) :
    w.cell? ⟨g, 0, none⟩ = some v0 ∧ w.cell? ⟨g, 1, none⟩ = some v1 ∧ w.cell? ⟨g, 2, none⟩ = some v2 ∧ w.cell? ⟨g, 3, none⟩ = some v3 ∧ w.cell? ⟨g, 4, none⟩ = some v4 ∧ w.cell? ⟨g, 5, none⟩ = some v5 ∧ w.cell? ⟨g, 6, none⟩ = some v6 ∧ w.cell? ⟨g, 7, none⟩ = some v7 ∧ w.cell? ⟨g, 8, none⟩ = some v8 ∧ w.cell? ⟨g, 9, none⟩ = some v9 ∧ w.cell? ⟨g, 10, none⟩ = some v10 ∧ w.cell? ⟨g, 11, none⟩ = some v11 ∧ w.cell? ⟨g, 12, none⟩ = some v12 ∧ w.cell? ⟨g, 13, none⟩ = some v13 ∧ w.cell? ⟨g, 14, none⟩ = some v14 ∧ w.cell? ⟨g, 15, none⟩ = some v15 ∧ w.cell? ⟨g, 16, none⟩ = some v16 ∧ w.cell? ⟨g, 17, none⟩ = some v17 ∧ w.cell? ⟨g, 18, none⟩ = some v18 ∧ w.cell? ⟨g, 19, none⟩ = some v19 ∧ w.cell? ⟨g, 20, none⟩ = some v20 ∧ w.cell? ⟨g, 21, none⟩ = some v21 ∧ w.cell? ⟨g, 22, none⟩ = some v22 ∧ w.cell? ⟨g, 23, none⟩ = some v23 ∧ w.cell? ⟨g, 24, none⟩ = some v24 ∧ w.cell? ⟨g, 25, none⟩ = some v25 ∧ w.cell? ⟨g, 26, none⟩ = some v26 ∧ w.cell? ⟨g, 27, none⟩ = some v27 ∧ w.cell? ⟨g, 28, none⟩ = some v28 ∧ w.cell? ⟨g, 29, none⟩ = some v29 ∧ w.cell? ⟨g, 30, none⟩ = some v30 ∧ w.cell? ⟨g, 31, none⟩ = some v31 ∧ ∀ j, w.frozen? ⟨g, j, none⟩ = false :=
  ⟨h.cell 0, h.cell 1, h.cell 2, h.cell 3, h.cell 4, h.cell 5, h.cell 6, h.cell 7, h.cell 8, h.cell 9, h.cell 10, h.cell 11, h.cell 12, h.cell 13, h.cell 14, h.cell 15, h.cell 16, h.cell 17, h.cell 18, h.cell 19, h.cell 20, h.cell 21, h.cell 22, h.cell 23, h.cell 24, h.cell 25, h.cell 26, h.cell 27, h.cell 28, h.cell 29, h.cell 30, h.cell 31, h.still⟩
/-- The block's cells from o on are stored anew. -/
def putL : List Value → Nat → List Value → List Value
  | vs, _, [] => vs
  | vs, o, v :: r => putL (vs.set o v) (o + 1) r
theorem bx_puts {g : Nat} {ty : TypeId} : ∀ (r : List Value) (o : Nat) {w : World} {vs : List Value}, Bx w g ty ⟨vs⟩ → Bx (sets g o r w) g ty ⟨putL vs o r⟩
  | [], _, _, _, h => h
  | v :: r, o, _, vs, h => bx_puts r (o + 1) (vs := vs.set o v) (by
      have := h.set o v
      simpa using this)

theorem putL_mid : ∀ (r m a b : List Value), m.length = r.length → putL (a ++ (m ++ b)) a.length r = a ++ (r ++ b)
  | [], [], _, _, _ => rfl
  | [], _ :: _, _, _, h => by cases h
  | _ :: _, [], _, _, h => by cases h
  | v :: r, x :: m, a, b, h => by
    have e1 : (a ++ (x :: m ++ b)).set a.length v = (a ++ [v]) ++ (m ++ b) := by
      rw [List.set_append_right _ _ (Nat.le_refl _), Nat.sub_self]
      simp
    have e2 : a.length + 1 = (a ++ [v]).length := by simp
    show putL ((a ++ (x :: m ++ b)).set a.length v) (a.length + 1) r = _
    rw [e1, e2, putL_mid r m (a ++ [v]) b (by simpa using h)]
    simp
/-- The cells m of a block, ahead of them a, behind them b, are stored anew. -/
theorem bx_put {g : Nat} {ty : TypeId} (a m b r : List Value) {w : World} (h : Bx w g ty ⟨a ++ (m ++ b)⟩) (hm : m.length = r.length) : Bx (sets g a.length r w) g ty ⟨a ++ (r ++ b)⟩ := by
  rw [← putL_mid r m a b hm]
  exact bx_puts r a.length h
theorem setCells_sets (g : Nat) : ∀ (r : List Value) (o : Nat) (w : World), w.setCells g o r = sets g o r w
  | [], _, _ => rfl
  | _ :: r, o, _ => setCells_sets g r (o + 1) _
theorem bx_range {w : World} {g : Nat} {ty : TypeId} {vs : List Value} (h : Bx w g ty ⟨vs⟩) : w.rangeAt g 0 vs := fun j v hv => by
  rw [Nat.zero_add, h.cell j]
  simpa using hv
theorem bx_there {w : World} {g : Nat} {ty : TypeId} {vs : List Value} {n : Nat} (h : Bx w g ty ⟨vs⟩) (hn : vs.length = n) : w.there g 0 n := fun j hj => by
  rw [Nat.zero_add, h.cell j]
  subst hn
  exact ⟨by simp [hj], h.still j⟩
theorem results_cell {P : Program} {fn : Func} {tmps : Array Value} {w : World} {slot : Nat} {ty : TypeId} {b : Nat} {cs : List Value} {d : TypeDesc} (hr : fn.results = #[.cell slot ty]) (ht : tmps.getD slot undef = .pointer (some ⟨b, 0, none⟩))
    (hc : w.rangeAt b 0 cs) (hu : P.underlying ty = some d) (hd : d.isRow = true) (hi : (P.info? ty).map (·.size) = some cs.length) : (results fn tmps).run P w = .ok (.agg cs.toArray) w := by
  have ht' : tmps[slot]?.getD undef = .pointer (some ⟨b, 0, none⟩) := by rw [← ht]; simp
  simp [results, hr, ht', asAddr, run_loadVar_mid w b 0 ty cs d hc hu hd hi]

/-- Where a pool's rows lie: the connections in blocks c to c', the line at L, the breaker's failures in f to f'. -/
structure RP where
  c : Nat
  c' : Nat
  L : Rg
  f : Nat
  f' : Nat
structure RP.In (R : RP) (lo hi : Nat) : Prop where
  c : lo ≤ R.c
  c' : R.c' ≤ hi
  L : R.L.In lo hi
  f : lo ≤ R.f
  f' : R.f' ≤ hi
theorem RP.In.wide {R : RP} {lo hi lo' hi' : Nat} (h : R.In lo hi) (h1 : lo' ≤ lo) (h2 : hi ≤ hi') : R.In lo' hi' :=
  ⟨Nat.le_trans h1 h.c, Nat.le_trans h.c' h2, h.L.wide h1 h2, Nat.le_trans h1 h.f, Nat.le_trans h.f' h2⟩
/-- A pool of the program's type in memory. -/
structure PM (w : World) (R : RP) (a : PA) (p : Pl) : Prop where
  cs : CnV w R.c R.c' a.C p.cs
  x : LnV w R.L a.A a.B p.x
  f : Rw.IV w R.f R.f' a.F p.b.fails
theorem PM.below {w w' : World} {R : RP} {a : PA} {p : Pl} {n lo : Nat} (h : PM w R a p) (hb : Below n w w') (hR : R.In lo n) : PM w' R a p :=
  ⟨h.cs.below hb hR.c', h.x.below hb hR.L, h.f.below hb hR.f'⟩
theorem PM.sto {w : World} {R : RP} {a : PA} {p : Pl} {g o lo hi : Nat} {r : List Value} (h : PM w R a p) (hR : R.In lo hi) (hg : g < lo ∨ hi ≤ g) : PM (sets g o r w) R a p := by
  have h1 := hR.c
  have h2 := hR.c'
  have h3 := hR.f
  have h4 := hR.f'
  exact ⟨h.cs.sets (by omega), h.x.sto hR.L hg, h.f.of_block fun k h1 h2 => sets_other g (by omega) r o w⟩
/-- A new pool comes back. -/
def NewP (w : World) (p : Pl) (e : Ending) (w' : World) : Prop := ∃ R a, e = .returned (.agg #[.int .i64 (p.c 0), .int .i64 (p.c 1), .int .i64 (p.c 2), .int .i64 (p.c 3), .int .i64 (p.c 4), .int .i64 (p.c 5), .int .i64 (p.c 6), .int .i64 (p.c 7), .int .i64 (p.c 8), .int .i64 (p.c 9), .int .i64 (p.c 10), .int .i64 (p.c 11), .int .i64 (p.c 12), .int .i64 (p.c 13), .int .i64 p.now, .int .i64 p.mode, .int .i64 p.nc, .int .i64 p.nt, .slice a.C p.cs.length a.cc, .slice a.A p.x.s.ss.length a.ca, .int .i64 p.x.s.f, .int .i64 p.x.s.l, .int .i64 p.x.s.r, .int .i64 p.x.s.c, .slice a.B p.x.ds.length a.cb, .int .i64 p.x.q, .int .i64 p.b.state, .slice a.F p.b.fails.length a.fc, .int .i64 p.b.till, .int .i64 p.fails, .int .i64 p.redial, .int .i64 p.drain]) ∧ PM w' R a p ∧ R.In w.heap.size w'.heap.size ∧ Below w.heap.size w w'

set_option maxRecDepth 100000 in
set_option maxHeartbeats 4000000 in
theorem toPool_any (a : PA) (p : Pl) (w : World) (hn : Few p 1048576) (h : PL w a p) : Calls Try.prog 16 #[.agg #[.int .i64 (p.c 0), .int .i64 (p.c 1), .int .i64 (p.c 2), .int .i64 (p.c 3), .int .i64 (p.c 4), .int .i64 (p.c 5), .int .i64 (p.c 6), .int .i64 (p.c 7), .int .i64 (p.c 8), .int .i64 (p.c 9), .int .i64 (p.c 10), .int .i64 (p.c 11), .int .i64 (p.c 12), .int .i64 (p.c 13), .int .i64 p.now, .int .i64 p.mode, .int .i64 p.nc, .int .i64 p.nt, .slice a.C p.cs.length a.cc, .slice a.A p.x.s.ss.length a.ca, .int .i64 p.x.s.f, .int .i64 p.x.s.l, .int .i64 p.x.s.r, .int .i64 p.x.s.c, .slice a.B p.x.ds.length a.cb, .int .i64 p.x.q, .int .i64 p.b.state, .slice a.F p.b.fails.length a.fc, .int .i64 p.b.till, .int .i64 p.fails, .int .i64 p.redial, .int .i64 p.drain]] w (NewP w p) := by
  have HL := Lib.hid h
  have Hn := Lib.hid hn
  clear h hn
  go_enter Try.func16, Try.ntmps16
  go_wp2_with fail
  have hB : ∀ o o' o'', Below w.heap.size w (((w.alloc o).alloc o').alloc o'') := fun _ _ _ => (((Below.refl _ _).alloc (Nat.le_refl _) _).alloc (by simp) _).alloc (by simp; omega) _
  refine (Cf.toConfig_any p.c _).mono ?_
  rintro e w1 ⟨rfl, b1⟩
  have K : Hid (Bx w1 w.heap.size 56 #[.int .i64 (p.c 0), .int .i64 (p.c 1), .int .i64 (p.c 2), .int .i64 (p.c 3), .int .i64 (p.c 4), .int .i64 (p.c 5), .int .i64 (p.c 6), .int .i64 (p.c 7), .int .i64 (p.c 8), .int .i64 (p.c 9), .int .i64 (p.c 10), .int .i64 (p.c 11), .int .i64 (p.c 12), .int .i64 (p.c 13), .int .i64 p.now, .int .i64 p.mode, .int .i64 p.nc, .int .i64 p.nt, .slice a.C p.cs.length a.cc, .slice a.A p.x.s.ss.length a.ca, .int .i64 p.x.s.f, .int .i64 p.x.s.l, .int .i64 p.x.s.r, .int .i64 p.x.s.c, .slice a.B p.x.ds.length a.cb, .int .i64 p.x.q, .int .i64 p.b.state, .slice a.F p.b.fails.length a.fc, .int .i64 p.b.till, .int .i64 p.fails, .int .i64 p.redial, .int .i64 p.drain]) := (((Bx.new w _ _).alloc _).alloc _).below b1
  have Q : Hid (Bx w1 (w.heap.size + 1) 38 #[.int .i64 0, .int .i64 0, .int .i64 0, .int .i64 0, .int .i64 0, .int .i64 0, .int .i64 0, .int .i64 0, .int .i64 0, .int .i64 0, .int .i64 0, .int .i64 0, .int .i64 0, .int .i64 0, .int .i64 0, .int .i64 0, .int .i64 0, .int .i64 0, .slice none 0 0, .slice none 0 0, .int .i64 0, .int .i64 0, .int .i64 0, .int .i64 0, .slice none 0 0, .int .i64 0, .int .i64 0, .slice none 0 0, .int .i64 0, .int .i64 0, .int .i64 0, .int .i64 0]) := ((Bx.at_new (w.alloc _) _ (by simp) _ _).alloc _).below b1
  have X : Hid (Bx w1 (w.heap.size + 1 + 1) 38 #[.int .i64 0, .int .i64 0, .int .i64 0, .int .i64 0, .int .i64 0, .int .i64 0, .int .i64 0, .int .i64 0, .int .i64 0, .int .i64 0, .int .i64 0, .int .i64 0, .int .i64 0, .int .i64 0, .int .i64 0, .int .i64 0, .int .i64 0, .int .i64 0, .slice none 0 0, .slice none 0 0, .int .i64 0, .int .i64 0, .int .i64 0, .int .i64 0, .slice none 0 0, .int .i64 0, .int .i64 0, .slice none 0 0, .int .i64 0, .int .i64 0, .int .i64 0, .int .i64 0]) := (Bx.at_new ((w.alloc _).alloc _) _ (by simp) _ _).below b1
  have W1 := Lib.hid (bel_trans (hB _ _ _) b1)
  have z1 := X.out.lt
  clear b1 hB
  obtain ⟨k0, k1, k2, k3, k4, k5, k6, k7, k8, k9, k10, k11, k12, k13, k14, k15, k16, k17, k18, k19, k20, k21, k22, k23, k24, k25, k26, k27, k28, k29, k30, k31, kf⟩ := K.out.cells32
  obtain ⟨x0, x1, x2, x3, x4, x5, x6, x7, x8, x9, x10, x11, x12, x13, x14, x15, x16, x17, x18, x19, x20, x21, x22, x23, x24, x25, x26, x27, x28, x29, x30, x31, xf⟩ := X.out.cells32
  go_wp2_with fail
  change Calls Try.prog 41 #[.slice a.C p.cs.length a.cc] (sets (w.heap.size + 1 + 1) 0 [.int .i64 (p.c 0), .int .i64 (p.c 1), .int .i64 (p.c 2), .int .i64 (p.c 3), .int .i64 (p.c 4), .int .i64 (p.c 5), .int .i64 (p.c 6), .int .i64 (p.c 7), .int .i64 (p.c 8), .int .i64 (p.c 9), .int .i64 (p.c 10), .int .i64 (p.c 11), .int .i64 (p.c 12), .int .i64 (p.c 13), .int .i64 p.now, .int .i64 p.mode, .int .i64 p.nc, .int .i64 p.nt] w1) _
  obtain ⟨u1, hu1⟩ : ∃ W, sets (w.heap.size + 1 + 1) 0 [.int .i64 (p.c 0), .int .i64 (p.c 1), .int .i64 (p.c 2), .int .i64 (p.c 3), .int .i64 (p.c 4), .int .i64 (p.c 5), .int .i64 (p.c 6), .int .i64 (p.c 7), .int .i64 (p.c 8), .int .i64 (p.c 9), .int .i64 (p.c 10), .int .i64 (p.c 11), .int .i64 (p.c 12), .int .i64 (p.c 13), .int .i64 p.now, .int .i64 p.mode, .int .i64 p.nc, .int .i64 p.nt] w1 = W := ⟨_, rfl⟩
  replace K := Lib.hid (K.out.sto (r := [.int .i64 (p.c 0), .int .i64 (p.c 1), .int .i64 (p.c 2), .int .i64 (p.c 3), .int .i64 (p.c 4), .int .i64 (p.c 5), .int .i64 (p.c 6), .int .i64 (p.c 7), .int .i64 (p.c 8), .int .i64 (p.c 9), .int .i64 (p.c 10), .int .i64 (p.c 11), .int .i64 (p.c 12), .int .i64 (p.c 13), .int .i64 p.now, .int .i64 p.mode, .int .i64 p.nc, .int .i64 p.nt]) (o := 0) (g := w.heap.size + 1 + 1) (by omega))
  replace Q := Lib.hid (Q.out.sto (r := [.int .i64 (p.c 0), .int .i64 (p.c 1), .int .i64 (p.c 2), .int .i64 (p.c 3), .int .i64 (p.c 4), .int .i64 (p.c 5), .int .i64 (p.c 6), .int .i64 (p.c 7), .int .i64 (p.c 8), .int .i64 (p.c 9), .int .i64 (p.c 10), .int .i64 (p.c 11), .int .i64 (p.c 12), .int .i64 (p.c 13), .int .i64 p.now, .int .i64 p.mode, .int .i64 p.nc, .int .i64 p.nt]) (o := 0) (g := w.heap.size + 1 + 1) (by omega))
  replace X : Hid (Bx (sets (w.heap.size + 1 + 1) 0 [.int .i64 (p.c 0), .int .i64 (p.c 1), .int .i64 (p.c 2), .int .i64 (p.c 3), .int .i64 (p.c 4), .int .i64 (p.c 5), .int .i64 (p.c 6), .int .i64 (p.c 7), .int .i64 (p.c 8), .int .i64 (p.c 9), .int .i64 (p.c 10), .int .i64 (p.c 11), .int .i64 (p.c 12), .int .i64 (p.c 13), .int .i64 p.now, .int .i64 p.mode, .int .i64 p.nc, .int .i64 p.nt] w1) (w.heap.size + 1 + 1) 38 #[.int .i64 (p.c 0), .int .i64 (p.c 1), .int .i64 (p.c 2), .int .i64 (p.c 3), .int .i64 (p.c 4), .int .i64 (p.c 5), .int .i64 (p.c 6), .int .i64 (p.c 7), .int .i64 (p.c 8), .int .i64 (p.c 9), .int .i64 (p.c 10), .int .i64 (p.c 11), .int .i64 (p.c 12), .int .i64 (p.c 13), .int .i64 p.now, .int .i64 p.mode, .int .i64 p.nc, .int .i64 p.nt, .slice none 0 0, .slice none 0 0, .int .i64 0, .int .i64 0, .int .i64 0, .int .i64 0, .slice none 0 0, .int .i64 0, .int .i64 0, .slice none 0 0, .int .i64 0, .int .i64 0, .int .i64 0, .int .i64 0]) := Lib.hid (bx_put [] [.int .i64 0, .int .i64 0, .int .i64 0, .int .i64 0, .int .i64 0, .int .i64 0, .int .i64 0, .int .i64 0, .int .i64 0, .int .i64 0, .int .i64 0, .int .i64 0, .int .i64 0, .int .i64 0, .int .i64 0, .int .i64 0, .int .i64 0, .int .i64 0] [.slice none 0 0, .slice none 0 0, .int .i64 0, .int .i64 0, .int .i64 0, .int .i64 0, .slice none 0 0, .int .i64 0, .int .i64 0, .slice none 0 0, .int .i64 0, .int .i64 0, .int .i64 0, .int .i64 0] [.int .i64 (p.c 0), .int .i64 (p.c 1), .int .i64 (p.c 2), .int .i64 (p.c 3), .int .i64 (p.c 4), .int .i64 (p.c 5), .int .i64 (p.c 6), .int .i64 (p.c 7), .int .i64 (p.c 8), .int .i64 (p.c 9), .int .i64 (p.c 10), .int .i64 (p.c 11), .int .i64 (p.c 12), .int .i64 (p.c 13), .int .i64 p.now, .int .i64 p.mode, .int .i64 p.nc, .int .i64 p.nt] X.out rfl)
  replace W1 := Lib.hid (sets_below (w.heap.size + 1 + 1) _ (by omega) [.int .i64 (p.c 0), .int .i64 (p.c 1), .int .i64 (p.c 2), .int .i64 (p.c 3), .int .i64 (p.c 4), .int .i64 (p.c 5), .int .i64 (p.c 6), .int .i64 (p.c 7), .int .i64 (p.c 8), .int .i64 (p.c 9), .int .i64 (p.c 10), .int .i64 (p.c 11), .int .i64 (p.c 12), .int .i64 (p.c 13), .int .i64 p.now, .int .i64 p.mode, .int .i64 p.nc, .int .i64 p.nt] 0 _ W1.out)
  have su1 := sets_size (w.heap.size + 1 + 1) [.int .i64 (p.c 0), .int .i64 (p.c 1), .int .i64 (p.c 2), .int .i64 (p.c 3), .int .i64 (p.c 4), .int .i64 (p.c 5), .int .i64 (p.c 6), .int .i64 (p.c 7), .int .i64 (p.c 8), .int .i64 (p.c 9), .int .i64 (p.c 10), .int .i64 (p.c 11), .int .i64 (p.c 12), .int .i64 (p.c 13), .int .i64 p.now, .int .i64 p.mode, .int .i64 p.nc, .int .i64 p.nt] 0 w1
  rw [hu1] at K Q X W1  su1 ⊢
  clear hu1
  clear k0 k1 k2 k3 k4 k5 k6 k7 k8 k9 k10 k11 k12 k13 k14 k15 k16 k17 k18 k19 k20 k21 k22 k23 k24 k25 k26 k27 k28 k29 k30 k31 kf x0 x1 x2 x3 x4 x5 x6 x7 x8 x9 x10 x11 x12 x13 x14 x15 x16 x17 x18 x19 x20 x21 x22 x23 x24 x25 x26 x27 x28 x29 x30 x31 xf
  refine (toConnS_any a.C _ a.cc p.cs u1 rfl Hn.out.cs (HL.out.cs.below W1.out)).mono ?_
  rintro e w2 ⟨C2, cq2, rfl, v2, b2⟩
  have z2 := b2.size
  replace K := Lib.hid (K.out.below b2)
  replace Q := Lib.hid (Q.out.below b2)
  replace X := Lib.hid (X.out.below b2)
  replace W1 := Lib.hid (bel_trans W1.out b2)
  have C := Lib.hid v2
  clear b2 v2
  obtain ⟨k0, k1, k2, k3, k4, k5, k6, k7, k8, k9, k10, k11, k12, k13, k14, k15, k16, k17, k18, k19, k20, k21, k22, k23, k24, k25, k26, k27, k28, k29, k30, k31, kf⟩ := K.out.cells32
  obtain ⟨x0, x1, x2, x3, x4, x5, x6, x7, x8, x9, x10, x11, x12, x13, x14, x15, x16, x17, x18, x19, x20, x21, x22, x23, x24, x25, x26, x27, x28, x29, x30, x31, xf⟩ := X.out.cells32
  go_wp2_with fail
  change Calls Try.prog 42 #[.agg #[.slice a.A p.x.s.ss.length a.ca, .int .i64 p.x.s.f, .int .i64 p.x.s.l, .int .i64 p.x.s.r, .int .i64 p.x.s.c, .slice a.B p.x.ds.length a.cb, .int .i64 p.x.q]] (sets (w.heap.size + 1 + 1) 18 [.slice C2 p.cs.length cq2] w2) _
  obtain ⟨u2, hu2⟩ : ∃ W, sets (w.heap.size + 1 + 1) 18 [.slice C2 p.cs.length cq2] w2 = W := ⟨_, rfl⟩
  replace K := Lib.hid (K.out.sto (r := [.slice C2 p.cs.length cq2]) (o := 18) (g := w.heap.size + 1 + 1) (by omega))
  replace Q := Lib.hid (Q.out.sto (r := [.slice C2 p.cs.length cq2]) (o := 18) (g := w.heap.size + 1 + 1) (by omega))
  replace X : Hid (Bx (sets (w.heap.size + 1 + 1) 18 [.slice C2 p.cs.length cq2] w2) (w.heap.size + 1 + 1) 38 #[.int .i64 (p.c 0), .int .i64 (p.c 1), .int .i64 (p.c 2), .int .i64 (p.c 3), .int .i64 (p.c 4), .int .i64 (p.c 5), .int .i64 (p.c 6), .int .i64 (p.c 7), .int .i64 (p.c 8), .int .i64 (p.c 9), .int .i64 (p.c 10), .int .i64 (p.c 11), .int .i64 (p.c 12), .int .i64 (p.c 13), .int .i64 p.now, .int .i64 p.mode, .int .i64 p.nc, .int .i64 p.nt, .slice C2 p.cs.length cq2, .slice none 0 0, .int .i64 0, .int .i64 0, .int .i64 0, .int .i64 0, .slice none 0 0, .int .i64 0, .int .i64 0, .slice none 0 0, .int .i64 0, .int .i64 0, .int .i64 0, .int .i64 0]) := Lib.hid (bx_put [.int .i64 (p.c 0), .int .i64 (p.c 1), .int .i64 (p.c 2), .int .i64 (p.c 3), .int .i64 (p.c 4), .int .i64 (p.c 5), .int .i64 (p.c 6), .int .i64 (p.c 7), .int .i64 (p.c 8), .int .i64 (p.c 9), .int .i64 (p.c 10), .int .i64 (p.c 11), .int .i64 (p.c 12), .int .i64 (p.c 13), .int .i64 p.now, .int .i64 p.mode, .int .i64 p.nc, .int .i64 p.nt] [.slice none 0 0] [.slice none 0 0, .int .i64 0, .int .i64 0, .int .i64 0, .int .i64 0, .slice none 0 0, .int .i64 0, .int .i64 0, .slice none 0 0, .int .i64 0, .int .i64 0, .int .i64 0, .int .i64 0] [.slice C2 p.cs.length cq2] X.out rfl)
  replace W1 := Lib.hid (sets_below (w.heap.size + 1 + 1) _ (by omega) [.slice C2 p.cs.length cq2] 18 _ W1.out)
  replace C := Lib.hid (C.out.sets (r := [.slice C2 p.cs.length cq2]) (o := 18) (g := w.heap.size + 1 + 1) (.inl (by omega)))
  have su2 := sets_size (w.heap.size + 1 + 1) [.slice C2 p.cs.length cq2] 18 w2
  rw [hu2] at K Q X W1 C su2 ⊢
  clear hu2
  clear k0 k1 k2 k3 k4 k5 k6 k7 k8 k9 k10 k11 k12 k13 k14 k15 k16 k17 k18 k19 k20 k21 k22 k23 k24 k25 k26 k27 k28 k29 k30 k31 kf x0 x1 x2 x3 x4 x5 x6 x7 x8 x9 x10 x11 x12 x13 x14 x15 x16 x17 x18 x19 x20 x21 x22 x23 x24 x25 x26 x27 x28 x29 x30 x31 xf
  refine (toLine_any a.A a.ca p.x a.B a.cb u2 Hn.out.s Hn.out.h (HL.out.s.below W1.out) (HL.out.h.below W1.out)).mono ?_
  rintro e w3 ⟨R3, A3, c3, B3, d3, rfl, v3, r3, b3⟩
  have z3 := b3.size
  replace K := Lib.hid (K.out.below b3)
  replace Q := Lib.hid (Q.out.below b3)
  replace X := Lib.hid (X.out.below b3)
  replace W1 := Lib.hid (bel_trans W1.out b3)
  replace C := Lib.hid (C.out.below b3 (by omega))
  have L := Lib.hid v3
  have R3' := Lib.hid r3
  clear b3 v3 r3
  obtain ⟨k0, k1, k2, k3, k4, k5, k6, k7, k8, k9, k10, k11, k12, k13, k14, k15, k16, k17, k18, k19, k20, k21, k22, k23, k24, k25, k26, k27, k28, k29, k30, k31, kf⟩ := K.out.cells32
  obtain ⟨x0, x1, x2, x3, x4, x5, x6, x7, x8, x9, x10, x11, x12, x13, x14, x15, x16, x17, x18, x19, x20, x21, x22, x23, x24, x25, x26, x27, x28, x29, x30, x31, xf⟩ := X.out.cells32
  go_wp2_with fail
  change Calls Try.prog 43 #[.agg #[.int .i64 p.b.state, .slice a.F p.b.fails.length a.fc, .int .i64 p.b.till]] (sets (w.heap.size + 1 + 1) 19 [.slice A3 p.x.s.ss.length c3, .int .i64 p.x.s.f, .int .i64 p.x.s.l, .int .i64 p.x.s.r, .int .i64 p.x.s.c, .slice B3 p.x.ds.length d3, .int .i64 p.x.q] w3) _
  obtain ⟨u3, hu3⟩ : ∃ W, sets (w.heap.size + 1 + 1) 19 [.slice A3 p.x.s.ss.length c3, .int .i64 p.x.s.f, .int .i64 p.x.s.l, .int .i64 p.x.s.r, .int .i64 p.x.s.c, .slice B3 p.x.ds.length d3, .int .i64 p.x.q] w3 = W := ⟨_, rfl⟩
  replace K := Lib.hid (K.out.sto (r := [.slice A3 p.x.s.ss.length c3, .int .i64 p.x.s.f, .int .i64 p.x.s.l, .int .i64 p.x.s.r, .int .i64 p.x.s.c, .slice B3 p.x.ds.length d3, .int .i64 p.x.q]) (o := 19) (g := w.heap.size + 1 + 1) (by omega))
  replace Q := Lib.hid (Q.out.sto (r := [.slice A3 p.x.s.ss.length c3, .int .i64 p.x.s.f, .int .i64 p.x.s.l, .int .i64 p.x.s.r, .int .i64 p.x.s.c, .slice B3 p.x.ds.length d3, .int .i64 p.x.q]) (o := 19) (g := w.heap.size + 1 + 1) (by omega))
  replace X : Hid (Bx (sets (w.heap.size + 1 + 1) 19 [.slice A3 p.x.s.ss.length c3, .int .i64 p.x.s.f, .int .i64 p.x.s.l, .int .i64 p.x.s.r, .int .i64 p.x.s.c, .slice B3 p.x.ds.length d3, .int .i64 p.x.q] w3) (w.heap.size + 1 + 1) 38 #[.int .i64 (p.c 0), .int .i64 (p.c 1), .int .i64 (p.c 2), .int .i64 (p.c 3), .int .i64 (p.c 4), .int .i64 (p.c 5), .int .i64 (p.c 6), .int .i64 (p.c 7), .int .i64 (p.c 8), .int .i64 (p.c 9), .int .i64 (p.c 10), .int .i64 (p.c 11), .int .i64 (p.c 12), .int .i64 (p.c 13), .int .i64 p.now, .int .i64 p.mode, .int .i64 p.nc, .int .i64 p.nt, .slice C2 p.cs.length cq2, .slice A3 p.x.s.ss.length c3, .int .i64 p.x.s.f, .int .i64 p.x.s.l, .int .i64 p.x.s.r, .int .i64 p.x.s.c, .slice B3 p.x.ds.length d3, .int .i64 p.x.q, .int .i64 0, .slice none 0 0, .int .i64 0, .int .i64 0, .int .i64 0, .int .i64 0]) := Lib.hid (bx_put [.int .i64 (p.c 0), .int .i64 (p.c 1), .int .i64 (p.c 2), .int .i64 (p.c 3), .int .i64 (p.c 4), .int .i64 (p.c 5), .int .i64 (p.c 6), .int .i64 (p.c 7), .int .i64 (p.c 8), .int .i64 (p.c 9), .int .i64 (p.c 10), .int .i64 (p.c 11), .int .i64 (p.c 12), .int .i64 (p.c 13), .int .i64 p.now, .int .i64 p.mode, .int .i64 p.nc, .int .i64 p.nt, .slice C2 p.cs.length cq2] [.slice none 0 0, .int .i64 0, .int .i64 0, .int .i64 0, .int .i64 0, .slice none 0 0, .int .i64 0] [.int .i64 0, .slice none 0 0, .int .i64 0, .int .i64 0, .int .i64 0, .int .i64 0] [.slice A3 p.x.s.ss.length c3, .int .i64 p.x.s.f, .int .i64 p.x.s.l, .int .i64 p.x.s.r, .int .i64 p.x.s.c, .slice B3 p.x.ds.length d3, .int .i64 p.x.q] X.out rfl)
  replace W1 := Lib.hid (sets_below (w.heap.size + 1 + 1) _ (by omega) [.slice A3 p.x.s.ss.length c3, .int .i64 p.x.s.f, .int .i64 p.x.s.l, .int .i64 p.x.s.r, .int .i64 p.x.s.c, .slice B3 p.x.ds.length d3, .int .i64 p.x.q] 19 _ W1.out)
  replace C := Lib.hid (C.out.sets (r := [.slice A3 p.x.s.ss.length c3, .int .i64 p.x.s.f, .int .i64 p.x.s.l, .int .i64 p.x.s.r, .int .i64 p.x.s.c, .slice B3 p.x.ds.length d3, .int .i64 p.x.q]) (o := 19) (g := w.heap.size + 1 + 1) (.inl (by omega)))
  replace L := Lib.hid (L.out.sto (r := [.slice A3 p.x.s.ss.length c3, .int .i64 p.x.s.f, .int .i64 p.x.s.l, .int .i64 p.x.s.r, .int .i64 p.x.s.c, .slice B3 p.x.ds.length d3, .int .i64 p.x.q]) (o := 19) (g := w.heap.size + 1 + 1) R3'.out (.inl (by omega)))
  have su3 := sets_size (w.heap.size + 1 + 1) [.slice A3 p.x.s.ss.length c3, .int .i64 p.x.s.f, .int .i64 p.x.s.l, .int .i64 p.x.s.r, .int .i64 p.x.s.c, .slice B3 p.x.ds.length d3, .int .i64 p.x.q] 19 w3
  rw [hu3] at K Q X W1 C L su3 ⊢
  clear hu3
  clear k0 k1 k2 k3 k4 k5 k6 k7 k8 k9 k10 k11 k12 k13 k14 k15 k16 k17 k18 k19 k20 k21 k22 k23 k24 k25 k26 k27 k28 k29 k30 k31 kf x0 x1 x2 x3 x4 x5 x6 x7 x8 x9 x10 x11 x12 x13 x14 x15 x16 x17 x18 x19 x20 x21 x22 x23 x24 x25 x26 x27 x28 x29 x30 x31 xf
  refine (Bk.toBreaker_any a.F _ a.fc p.b.fails _ _ u3 rfl Hn.out.f (HL.out.f.below W1.out)).mono ?_
  rintro e w4 ⟨F4, f4, rfl, v4, b4⟩
  have z4 := b4.size
  replace K := Lib.hid (K.out.below b4)
  replace Q := Lib.hid (Q.out.below b4)
  replace X := Lib.hid (X.out.below b4)
  replace W1 := Lib.hid (bel_trans W1.out b4)
  replace C := Lib.hid (C.out.below b4 (by omega))
  replace L := Lib.hid (L.out.below b4 (R3'.out.wide (Nat.le_refl _) (by omega)))
  have F := Lib.hid v4
  clear b4 v4
  obtain ⟨k0, k1, k2, k3, k4, k5, k6, k7, k8, k9, k10, k11, k12, k13, k14, k15, k16, k17, k18, k19, k20, k21, k22, k23, k24, k25, k26, k27, k28, k29, k30, k31, kf⟩ := K.out.cells32
  obtain ⟨x0, x1, x2, x3, x4, x5, x6, x7, x8, x9, x10, x11, x12, x13, x14, x15, x16, x17, x18, x19, x20, x21, x22, x23, x24, x25, x26, x27, x28, x29, x30, x31, xf⟩ := X.out.cells32
  go_upto_region 13 with fail
  change Code.wp _ _ _ _ (sets (w.heap.size + 1 + 1) 26 [.int .i64 p.b.state, .slice F4 p.b.fails.length f4, .int .i64 p.b.till, .int .i64 p.fails, .int .i64 p.redial, .int .i64 p.drain] w4)
  obtain ⟨u4, hu4⟩ : ∃ W, sets (w.heap.size + 1 + 1) 26 [.int .i64 p.b.state, .slice F4 p.b.fails.length f4, .int .i64 p.b.till, .int .i64 p.fails, .int .i64 p.redial, .int .i64 p.drain] w4 = W := ⟨_, rfl⟩
  replace K := Lib.hid (K.out.sto (r := [.int .i64 p.b.state, .slice F4 p.b.fails.length f4, .int .i64 p.b.till, .int .i64 p.fails, .int .i64 p.redial, .int .i64 p.drain]) (o := 26) (g := w.heap.size + 1 + 1) (by omega))
  replace Q := Lib.hid (Q.out.sto (r := [.int .i64 p.b.state, .slice F4 p.b.fails.length f4, .int .i64 p.b.till, .int .i64 p.fails, .int .i64 p.redial, .int .i64 p.drain]) (o := 26) (g := w.heap.size + 1 + 1) (by omega))
  replace X : Hid (Bx (sets (w.heap.size + 1 + 1) 26 [.int .i64 p.b.state, .slice F4 p.b.fails.length f4, .int .i64 p.b.till, .int .i64 p.fails, .int .i64 p.redial, .int .i64 p.drain] w4) (w.heap.size + 1 + 1) 38 #[.int .i64 (p.c 0), .int .i64 (p.c 1), .int .i64 (p.c 2), .int .i64 (p.c 3), .int .i64 (p.c 4), .int .i64 (p.c 5), .int .i64 (p.c 6), .int .i64 (p.c 7), .int .i64 (p.c 8), .int .i64 (p.c 9), .int .i64 (p.c 10), .int .i64 (p.c 11), .int .i64 (p.c 12), .int .i64 (p.c 13), .int .i64 p.now, .int .i64 p.mode, .int .i64 p.nc, .int .i64 p.nt, .slice C2 p.cs.length cq2, .slice A3 p.x.s.ss.length c3, .int .i64 p.x.s.f, .int .i64 p.x.s.l, .int .i64 p.x.s.r, .int .i64 p.x.s.c, .slice B3 p.x.ds.length d3, .int .i64 p.x.q, .int .i64 p.b.state, .slice F4 p.b.fails.length f4, .int .i64 p.b.till, .int .i64 p.fails, .int .i64 p.redial, .int .i64 p.drain]) := Lib.hid (bx_put [.int .i64 (p.c 0), .int .i64 (p.c 1), .int .i64 (p.c 2), .int .i64 (p.c 3), .int .i64 (p.c 4), .int .i64 (p.c 5), .int .i64 (p.c 6), .int .i64 (p.c 7), .int .i64 (p.c 8), .int .i64 (p.c 9), .int .i64 (p.c 10), .int .i64 (p.c 11), .int .i64 (p.c 12), .int .i64 (p.c 13), .int .i64 p.now, .int .i64 p.mode, .int .i64 p.nc, .int .i64 p.nt, .slice C2 p.cs.length cq2, .slice A3 p.x.s.ss.length c3, .int .i64 p.x.s.f, .int .i64 p.x.s.l, .int .i64 p.x.s.r, .int .i64 p.x.s.c, .slice B3 p.x.ds.length d3, .int .i64 p.x.q] [.int .i64 0, .slice none 0 0, .int .i64 0, .int .i64 0, .int .i64 0, .int .i64 0] [] [.int .i64 p.b.state, .slice F4 p.b.fails.length f4, .int .i64 p.b.till, .int .i64 p.fails, .int .i64 p.redial, .int .i64 p.drain] X.out rfl)
  replace W1 := Lib.hid (sets_below (w.heap.size + 1 + 1) _ (by omega) [.int .i64 p.b.state, .slice F4 p.b.fails.length f4, .int .i64 p.b.till, .int .i64 p.fails, .int .i64 p.redial, .int .i64 p.drain] 26 _ W1.out)
  replace C := Lib.hid (C.out.sets (r := [.int .i64 p.b.state, .slice F4 p.b.fails.length f4, .int .i64 p.b.till, .int .i64 p.fails, .int .i64 p.redial, .int .i64 p.drain]) (o := 26) (g := w.heap.size + 1 + 1) (.inl (by omega)))
  replace L := Lib.hid (L.out.sto (r := [.int .i64 p.b.state, .slice F4 p.b.fails.length f4, .int .i64 p.b.till, .int .i64 p.fails, .int .i64 p.redial, .int .i64 p.drain]) (o := 26) (g := w.heap.size + 1 + 1) R3'.out (.inl (by omega)))
  replace F := Lib.hid (F.out.of_block fun k h1 h2 => sets_other (w.heap.size + 1 + 1) (by omega) [.int .i64 p.b.state, .slice F4 p.b.fails.length f4, .int .i64 p.b.till, .int .i64 p.fails, .int .i64 p.redial, .int .i64 p.drain] 26 w4)
  have su4 := sets_size (w.heap.size + 1 + 1) [.int .i64 p.b.state, .slice F4 p.b.fails.length f4, .int .i64 p.b.till, .int .i64 p.fails, .int .i64 p.redial, .int .i64 p.drain] 26 w4
  rw [hu4] at K Q X W1 C L F su4 ⊢
  clear hu4
  clear k0 k1 k2 k3 k4 k5 k6 k7 k8 k9 k10 k11 k12 k13 k14 k15 k16 k17 k18 k19 k20 k21 k22 k23 k24 k25 k26 k27 k28 k29 k30 k31 kf x0 x1 x2 x3 x4 x5 x6 x7 x8 x9 x10 x11 x12 x13 x14 x15 x16 x17 x18 x19 x20 x21 x22 x23 x24 x25 x26 x27 x28 x29 x30 x31 xf
  have Y : Hid (Bx (sets (w.heap.size + 1) 0 [.int .i64 (p.c 0), .int .i64 (p.c 1), .int .i64 (p.c 2), .int .i64 (p.c 3), .int .i64 (p.c 4), .int .i64 (p.c 5), .int .i64 (p.c 6), .int .i64 (p.c 7), .int .i64 (p.c 8), .int .i64 (p.c 9), .int .i64 (p.c 10), .int .i64 (p.c 11), .int .i64 (p.c 12), .int .i64 (p.c 13), .int .i64 p.now, .int .i64 p.mode, .int .i64 p.nc, .int .i64 p.nt, .slice C2 p.cs.length cq2, .slice A3 p.x.s.ss.length c3, .int .i64 p.x.s.f, .int .i64 p.x.s.l, .int .i64 p.x.s.r, .int .i64 p.x.s.c, .slice B3 p.x.ds.length d3, .int .i64 p.x.q, .int .i64 p.b.state, .slice F4 p.b.fails.length f4, .int .i64 p.b.till, .int .i64 p.fails, .int .i64 p.redial, .int .i64 p.drain] u4) (w.heap.size + 1) 38 #[.int .i64 (p.c 0), .int .i64 (p.c 1), .int .i64 (p.c 2), .int .i64 (p.c 3), .int .i64 (p.c 4), .int .i64 (p.c 5), .int .i64 (p.c 6), .int .i64 (p.c 7), .int .i64 (p.c 8), .int .i64 (p.c 9), .int .i64 (p.c 10), .int .i64 (p.c 11), .int .i64 (p.c 12), .int .i64 (p.c 13), .int .i64 p.now, .int .i64 p.mode, .int .i64 p.nc, .int .i64 p.nt, .slice C2 p.cs.length cq2, .slice A3 p.x.s.ss.length c3, .int .i64 p.x.s.f, .int .i64 p.x.s.l, .int .i64 p.x.s.r, .int .i64 p.x.s.c, .slice B3 p.x.ds.length d3, .int .i64 p.x.q, .int .i64 p.b.state, .slice F4 p.b.fails.length f4, .int .i64 p.b.till, .int .i64 p.fails, .int .i64 p.redial, .int .i64 p.drain]) := Lib.hid (bx_put [] [.int .i64 0, .int .i64 0, .int .i64 0, .int .i64 0, .int .i64 0, .int .i64 0, .int .i64 0, .int .i64 0, .int .i64 0, .int .i64 0, .int .i64 0, .int .i64 0, .int .i64 0, .int .i64 0, .int .i64 0, .int .i64 0, .int .i64 0, .int .i64 0, .slice none 0 0, .slice none 0 0, .int .i64 0, .int .i64 0, .int .i64 0, .int .i64 0, .slice none 0 0, .int .i64 0, .int .i64 0, .slice none 0 0, .int .i64 0, .int .i64 0, .int .i64 0, .int .i64 0] [] [.int .i64 (p.c 0), .int .i64 (p.c 1), .int .i64 (p.c 2), .int .i64 (p.c 3), .int .i64 (p.c 4), .int .i64 (p.c 5), .int .i64 (p.c 6), .int .i64 (p.c 7), .int .i64 (p.c 8), .int .i64 (p.c 9), .int .i64 (p.c 10), .int .i64 (p.c 11), .int .i64 (p.c 12), .int .i64 (p.c 13), .int .i64 p.now, .int .i64 p.mode, .int .i64 p.nc, .int .i64 p.nt, .slice C2 p.cs.length cq2, .slice A3 p.x.s.ss.length c3, .int .i64 p.x.s.f, .int .i64 p.x.s.l, .int .i64 p.x.s.r, .int .i64 p.x.s.c, .slice B3 p.x.ds.length d3, .int .i64 p.x.q, .int .i64 p.b.state, .slice F4 p.b.fails.length f4, .int .i64 p.b.till, .int .i64 p.fails, .int .i64 p.redial, .int .i64 p.drain] Q.out rfl)
  refine wp_region_lit ?_
  refine wpList_load_mid rfl 38 (.tmp 3) rfl (w.heap.size + 1 + 1) 0 rfl [.int .i64 (p.c 0), .int .i64 (p.c 1), .int .i64 (p.c 2), .int .i64 (p.c 3), .int .i64 (p.c 4), .int .i64 (p.c 5), .int .i64 (p.c 6), .int .i64 (p.c 7), .int .i64 (p.c 8), .int .i64 (p.c 9), .int .i64 (p.c 10), .int .i64 (p.c 11), .int .i64 (p.c 12), .int .i64 (p.c 13), .int .i64 p.now, .int .i64 p.mode, .int .i64 p.nc, .int .i64 p.nt, .slice C2 p.cs.length cq2, .slice A3 p.x.s.ss.length c3, .int .i64 p.x.s.f, .int .i64 p.x.s.l, .int .i64 p.x.s.r, .int .i64 p.x.s.c, .slice B3 p.x.ds.length d3, .int .i64 p.x.q, .int .i64 p.b.state, .slice F4 p.b.fails.length f4, .int .i64 p.b.till, .int .i64 p.fails, .int .i64 p.redial, .int .i64 p.drain] _ (bx_range X.out) Try.underlying38 rfl (by kernel_rfl) ?_
  refine wpList_store_mid rfl 38 (.tmp 2) (.tmp 41) rfl (w.heap.size + 1) 0 #[.int .i64 (p.c 0), .int .i64 (p.c 1), .int .i64 (p.c 2), .int .i64 (p.c 3), .int .i64 (p.c 4), .int .i64 (p.c 5), .int .i64 (p.c 6), .int .i64 (p.c 7), .int .i64 (p.c 8), .int .i64 (p.c 9), .int .i64 (p.c 10), .int .i64 (p.c 11), .int .i64 (p.c 12), .int .i64 (p.c 13), .int .i64 p.now, .int .i64 p.mode, .int .i64 p.nc, .int .i64 p.nt, .slice C2 p.cs.length cq2, .slice A3 p.x.s.ss.length c3, .int .i64 p.x.s.f, .int .i64 p.x.s.l, .int .i64 p.x.s.r, .int .i64 p.x.s.c, .slice B3 p.x.ds.length d3, .int .i64 p.x.q, .int .i64 p.b.state, .slice F4 p.b.fails.length f4, .int .i64 p.b.till, .int .i64 p.fails, .int .i64 p.redial, .int .i64 p.drain] rfl rfl (bx_there Q.out rfl) (by kernel_rfl) (by simp [Value.oneCell']) ?_
  change wpList _ _ _ _ _ (World.setCells u4 (w.heap.size + 1) 0 [.int .i64 (p.c 0), .int .i64 (p.c 1), .int .i64 (p.c 2), .int .i64 (p.c 3), .int .i64 (p.c 4), .int .i64 (p.c 5), .int .i64 (p.c 6), .int .i64 (p.c 7), .int .i64 (p.c 8), .int .i64 (p.c 9), .int .i64 (p.c 10), .int .i64 (p.c 11), .int .i64 (p.c 12), .int .i64 (p.c 13), .int .i64 p.now, .int .i64 p.mode, .int .i64 p.nc, .int .i64 p.nt, .slice C2 p.cs.length cq2, .slice A3 p.x.s.ss.length c3, .int .i64 p.x.s.f, .int .i64 p.x.s.l, .int .i64 p.x.s.r, .int .i64 p.x.s.c, .slice B3 p.x.ds.length d3, .int .i64 p.x.q, .int .i64 p.b.state, .slice F4 p.b.fails.length f4, .int .i64 p.b.till, .int .i64 p.fails, .int .i64 p.redial, .int .i64 p.drain])
  rw [setCells_sets]
  go_wp2
  refine bodyPost_ret (w := sets (w.heap.size + 1) 0 [.int .i64 (p.c 0), .int .i64 (p.c 1), .int .i64 (p.c 2), .int .i64 (p.c 3), .int .i64 (p.c 4), .int .i64 (p.c 5), .int .i64 (p.c 6), .int .i64 (p.c 7), .int .i64 (p.c 8), .int .i64 (p.c 9), .int .i64 (p.c 10), .int .i64 (p.c 11), .int .i64 (p.c 12), .int .i64 (p.c 13), .int .i64 p.now, .int .i64 p.mode, .int .i64 p.nc, .int .i64 p.nt, .slice C2 p.cs.length cq2, .slice A3 p.x.s.ss.length c3, .int .i64 p.x.s.f, .int .i64 p.x.s.l, .int .i64 p.x.s.r, .int .i64 p.x.s.c, .slice B3 p.x.ds.length d3, .int .i64 p.x.q, .int .i64 p.b.state, .slice F4 p.b.fails.length f4, .int .i64 p.b.till, .int .i64 p.fails, .int .i64 p.redial, .int .i64 p.drain] u4) (v := .agg #[.int .i64 (p.c 0), .int .i64 (p.c 1), .int .i64 (p.c 2), .int .i64 (p.c 3), .int .i64 (p.c 4), .int .i64 (p.c 5), .int .i64 (p.c 6), .int .i64 (p.c 7), .int .i64 (p.c 8), .int .i64 (p.c 9), .int .i64 (p.c 10), .int .i64 (p.c 11), .int .i64 (p.c 12), .int .i64 (p.c 13), .int .i64 p.now, .int .i64 p.mode, .int .i64 p.nc, .int .i64 p.nt, .slice C2 p.cs.length cq2, .slice A3 p.x.s.ss.length c3, .int .i64 p.x.s.f, .int .i64 p.x.s.l, .int .i64 p.x.s.r, .int .i64 p.x.s.c, .slice B3 p.x.ds.length d3, .int .i64 p.x.q, .int .i64 p.b.state, .slice F4 p.b.fails.length f4, .int .i64 p.b.till, .int .i64 p.fails, .int .i64 p.redial, .int .i64 p.drain]) (results_cell rfl rfl (bx_range Y.out) Try.underlying38 rfl (by kernel_rfl)) rfl ?_
  refine ⟨⟨u1.heap.size, w2.heap.size, R3, u3.heap.size, w4.heap.size⟩, ⟨C2, cq2, A3, c3, B3, d3, F4, f4⟩, rfl, PM.sto (R := ⟨u1.heap.size, w2.heap.size, R3, u3.heap.size, w4.heap.size⟩) (a := ⟨C2, cq2, A3, c3, B3, d3, F4, f4⟩) ⟨C.out, L.out, F.out⟩ (lo := w.heap.size + 1 + 1) (hi := w4.heap.size) ?_ (.inl (Nat.lt_succ_self _)), ?_, sets_below _ _ (by omega) _ _ _ W1.out⟩
  · exact ⟨by show _ ≤ u1.heap.size; omega, by show w2.heap.size ≤ _; omega, R3'.out.wide (by omega) (by omega), by show _ ≤ u3.heap.size; omega, Nat.le_refl _⟩
  · rw [sets_size]
    exact ⟨by show _ ≤ u1.heap.size; omega, by show w2.heap.size ≤ _; omega, R3'.out.wide (by omega) (by omega), by show _ ≤ u3.heap.size; omega, by show w4.heap.size ≤ _; omega⟩
end Go.Proofs.Ytehdbdolhkflcaa.Po
