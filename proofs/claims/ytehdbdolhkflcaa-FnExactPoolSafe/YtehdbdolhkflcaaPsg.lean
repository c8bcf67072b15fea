/- PoolSafe, the program's and the reference's. -/
import Derived.Test.YtehdbdolhkflcaaPsf
namespace Go.Proofs.Ytehdbdolhkflcaa.Po
open Go.RowKit Go.Deep Base Ln

/-- A whole struct loaded where a guard lets it. -/
theorem wpList_load_w {P : Program} {ops : Array Oper} {rest : List Oper} {op : Oper} {a : Act} {w : World} {Q : Exit → Act → World → Prop} (hw : Region.wanted op (yielded ops a.tmps) = true) (ty : TypeId) (x : Operand) (ho : op.op = .load ty x)
    (b o : Nat) (hx : a.eval x = .pointer (some ⟨b, o, none⟩)) (cs : List Value) (d : TypeDesc) (hc : w.rangeAt b o cs)
    (hu : P.underlying ty = some d) (hd : d.isRow = true) (hi : (P.info? ty).map (·.size) = some cs.length)
    (h : wpList P ops Q rest (a.put op.dst (.agg cs.toArray)) w) : wpList P ops Q (op :: rest) a w :=
  wpList_step fun _ hK => by
    rw [if_pos hw]
    exact wp_load_mid ty x ho b o hx cs d hc hu hd hi (hK _ _ h)

set_option maxRecDepth 100000 in
set_option maxHeartbeats 4000000 in
theorem implPoolSafe_any (a : PA) (p : Pl) (R : RP) (w : World) (hn : Few p 1048576) (h : PM w R a p) (hR : R.In 0 w.heap.size) :
    Calls Try.prog 23 #[.agg #[.int .i64 (p.c 0), .int .i64 (p.c 1), .int .i64 (p.c 2), .int .i64 (p.c 3), .int .i64 (p.c 4), .int .i64 (p.c 5), .int .i64 (p.c 6), .int .i64 (p.c 7), .int .i64 (p.c 8), .int .i64 (p.c 9), .int .i64 (p.c 10), .int .i64 (p.c 11), .int .i64 (p.c 12), .int .i64 (p.c 13), .int .i64 p.now, .int .i64 p.mode, .int .i64 p.nc, .int .i64 p.nt, .slice a.C p.cs.length a.cc, .slice a.A p.x.s.ss.length a.ca, .int .i64 p.x.s.f, .int .i64 p.x.s.l, .int .i64 p.x.s.r, .int .i64 p.x.s.c, .slice a.B p.x.ds.length a.cb, .int .i64 p.x.q, .int .i64 p.b.state, .slice a.F p.b.fails.length a.fc, .int .i64 p.b.till, .int .i64 p.fails, .int .i64 p.redial, .int .i64 p.drain]] w fun e w' => e = .returned (.bool (safeB p)) ∧ Below w.heap.size w w' := by
  have H := Lib.hid h
  have HR := Lib.hid hR
  have Hn := Lib.hid hn
  clear h hR hn
  have Hs : Hid (safeB p = (connsB p && tkB p && okL p.x && Bk.okB p.b && Cf.okC p.c)) := Lib.hid rfl
  generalize safeB p = z at Hs ⊢
  go_enter Try.func23, Try.ntmps23
  go_upto_region 1 with fail
  obtain ⟨w0, hw0⟩ : ∃ w0, w.alloc (.cells #[.int .i64 (p.c 0), .int .i64 (p.c 1), .int .i64 (p.c 2), .int .i64 (p.c 3), .int .i64 (p.c 4), .int .i64 (p.c 5), .int .i64 (p.c 6), .int .i64 (p.c 7), .int .i64 (p.c 8), .int .i64 (p.c 9), .int .i64 (p.c 10), .int .i64 (p.c 11), .int .i64 (p.c 12), .int .i64 (p.c 13), .int .i64 p.now, .int .i64 p.mode, .int .i64 p.nc, .int .i64 p.nt, .slice a.C p.cs.length a.cc, .slice a.A p.x.s.ss.length a.ca, .int .i64 p.x.s.f, .int .i64 p.x.s.l, .int .i64 p.x.s.r, .int .i64 p.x.s.c, .slice a.B p.x.ds.length a.cb, .int .i64 p.x.q, .int .i64 p.b.state, .slice a.F p.b.fails.length a.fc, .int .i64 p.b.till, .int .i64 p.fails, .int .i64 p.redial, .int .i64 p.drain] 38) = w0 := ⟨_, rfl⟩
  have K : Hid (Bx w0 w.heap.size 38 #[.int .i64 (p.c 0), .int .i64 (p.c 1), .int .i64 (p.c 2), .int .i64 (p.c 3), .int .i64 (p.c 4), .int .i64 (p.c 5), .int .i64 (p.c 6), .int .i64 (p.c 7), .int .i64 (p.c 8), .int .i64 (p.c 9), .int .i64 (p.c 10), .int .i64 (p.c 11), .int .i64 (p.c 12), .int .i64 (p.c 13), .int .i64 p.now, .int .i64 p.mode, .int .i64 p.nc, .int .i64 p.nt, .slice a.C p.cs.length a.cc, .slice a.A p.x.s.ss.length a.ca, .int .i64 p.x.s.f, .int .i64 p.x.s.l, .int .i64 p.x.s.r, .int .i64 p.x.s.c, .slice a.B p.x.ds.length a.cb, .int .i64 p.x.q, .int .i64 p.b.state, .slice a.F p.b.fails.length a.fc, .int .i64 p.b.till, .int .i64 p.fails, .int .i64 p.redial, .int .i64 p.drain]) := by rw [← hw0]; exact Bx.new w _ _
  have B : Hid (Below w.heap.size w w0) := by rw [← hw0]; exact bel_alloc w _
  rw [hw0]
  clear hw0
  refine wp_region_lit ?_
  refine wpList_load_mid rfl 38 (.tmp 1) rfl w.heap.size 0 rfl [.int .i64 (p.c 0), .int .i64 (p.c 1), .int .i64 (p.c 2), .int .i64 (p.c 3), .int .i64 (p.c 4), .int .i64 (p.c 5), .int .i64 (p.c 6), .int .i64 (p.c 7), .int .i64 (p.c 8), .int .i64 (p.c 9), .int .i64 (p.c 10), .int .i64 (p.c 11), .int .i64 (p.c 12), .int .i64 (p.c 13), .int .i64 p.now, .int .i64 p.mode, .int .i64 p.nc, .int .i64 p.nt, .slice a.C p.cs.length a.cc, .slice a.A p.x.s.ss.length a.ca, .int .i64 p.x.s.f, .int .i64 p.x.s.l, .int .i64 p.x.s.r, .int .i64 p.x.s.c, .slice a.B p.x.ds.length a.cb, .int .i64 p.x.q, .int .i64 p.b.state, .slice a.F p.b.fails.length a.fc, .int .i64 p.b.till, .int .i64 p.fails, .int .i64 p.redial, .int .i64 p.drain] _ (bx_range K.out) Try.underlying38 rfl (by kernel_rfl) ?_
  go_wp2_with fail
  refine (connsSafe_any a p R w0 Hn.out.cs (H.out.cs.below B.out HR.out.c') (Nat.le_trans HR.out.c' B.out.size)).mono ?_
  rintro e w1 ⟨rfl, b1⟩
  replace K := Lib.hid (K.out.below b1)
  replace B := Lib.hid (bel_trans B.out b1)
  clear b1
  cases h1 : connsB p
  · have Ho : Hid (z = false) := by show _ = _; rw [Hs.out, h1]; rfl
    clear h1 Hs
    go_wp2
    go_ret
    exact ⟨by rw [Ho.out]; rfl, B.out⟩
  rename_i hK
  refine hK _ _ ?_
  clear hK
  refine wpList_val rfl (v := .bool true) (w' := w1) rfl ?_
  refine wpList_load_w rfl 38 (.tmp 1) rfl w.heap.size 0 rfl [.int .i64 (p.c 0), .int .i64 (p.c 1), .int .i64 (p.c 2), .int .i64 (p.c 3), .int .i64 (p.c 4), .int .i64 (p.c 5), .int .i64 (p.c 6), .int .i64 (p.c 7), .int .i64 (p.c 8), .int .i64 (p.c 9), .int .i64 (p.c 10), .int .i64 (p.c 11), .int .i64 (p.c 12), .int .i64 (p.c 13), .int .i64 p.now, .int .i64 p.mode, .int .i64 p.nc, .int .i64 p.nt, .slice a.C p.cs.length a.cc, .slice a.A p.x.s.ss.length a.ca, .int .i64 p.x.s.f, .int .i64 p.x.s.l, .int .i64 p.x.s.r, .int .i64 p.x.s.c, .slice a.B p.x.ds.length a.cb, .int .i64 p.x.q, .int .i64 p.b.state, .slice a.F p.b.fails.length a.fc, .int .i64 p.b.till, .int .i64 p.fails, .int .i64 p.redial, .int .i64 p.drain] _ (bx_range K.out) Try.underlying38 rfl (by kernel_rfl) ?_
  go_wp2_with fail
  refine (ticketsSafe_any a p R w1 Hn.out (H.out.below B.out HR.out) (HR.out.wide (Nat.le_refl _) B.out.size)).mono ?_
  rintro e w2 ⟨rfl, b2⟩
  replace K := Lib.hid (K.out.below b2)
  replace B := Lib.hid (bel_trans B.out b2)
  clear b2
  cases h2 : tkB p
  · have Ho : Hid (z = false) := by show _ = _; rw [Hs.out, h1, h2]; rfl
    clear h1 h2 Hs
    go_wp2
    go_ret
    exact ⟨by rw [Ho.out]; rfl, B.out⟩
  obtain ⟨q19, q20, q21, q22, q23, q24, q25⟩ : w2.cell? ⟨w.heap.size, 19, none⟩ = some (.slice a.A p.x.s.ss.length a.ca) ∧ w2.cell? ⟨w.heap.size, 20, none⟩ = some (.int .i64 p.x.s.f) ∧ w2.cell? ⟨w.heap.size, 21, none⟩ = some (.int .i64 p.x.s.l) ∧ w2.cell? ⟨w.heap.size, 22, none⟩ = some (.int .i64 p.x.s.r) ∧ w2.cell? ⟨w.heap.size, 23, none⟩ = some (.int .i64 p.x.s.c) ∧ w2.cell? ⟨w.heap.size, 24, none⟩ = some (.slice a.B p.x.ds.length a.cb) ∧ w2.cell? ⟨w.heap.size, 25, none⟩ = some (.int .i64 p.x.q) := ⟨K.out.cell 19, K.out.cell 20, K.out.cell 21, K.out.cell 22, K.out.cell 23, K.out.cell 24, K.out.cell 25⟩
  go_wp2_with fail
  refine (implLineOk_any a.A a.ca p.x a.B a.cb R.L w2 Hn.out.h (H.out.x.below B.out HR.out.L) (HR.out.L.wide (Nat.le_refl _) B.out.size)).mono ?_
  rintro e w3 ⟨rfl, b3⟩
  clear q19 q20 q21 q22 q23 q24 q25
  replace K := Lib.hid (K.out.below b3)
  replace B := Lib.hid (bel_trans B.out b3)
  clear b3
  cases h3 : okL p.x
  · have Ho : Hid (z = false) := by show _ = _; rw [Hs.out, h1, h2, h3]; rfl
    clear h1 h2 h3 Hs
    go_wp2
    go_ret
    exact ⟨by rw [Ho.out]; rfl, B.out⟩
  obtain ⟨q26, q27, q28⟩ : w3.cell? ⟨w.heap.size, 26, none⟩ = some (.int .i64 p.b.state) ∧ w3.cell? ⟨w.heap.size, 27, none⟩ = some (.slice a.F p.b.fails.length a.fc) ∧ w3.cell? ⟨w.heap.size, 28, none⟩ = some (.int .i64 p.b.till) := ⟨K.out.cell 26, K.out.cell 27, K.out.cell 28⟩
  go_wp2_with fail
  refine (Bk.implBreakerOk_any a.F _ a.fc p.b.state p.b.till p.b.fails w3 rfl Hn.out.f (H.out.f.below B.out HR.out.f').ints).mono ?_
  rintro e w4 ⟨rfl, b4⟩
  clear q26 q27 q28
  replace K := Lib.hid (K.out.below b4)
  replace B := Lib.hid (bel_trans B.out b4)
  clear b4
  cases h4 : Bk.okB p.b
  · have Ho : Hid (z = false) := by show _ = _; rw [Hs.out, h1, h2, h3, h4]; rfl
    clear h1 h2 h3 h4 Hs
    go_wp2
    go_ret
    exact ⟨by rw [Ho.out]; rfl, B.out⟩
  obtain ⟨q0, q1, q2, q3, q4, q5, q6, q7, q8, q9, q10, q11, q12, q13⟩ : w4.cell? ⟨w.heap.size, 0, none⟩ = some (.int .i64 (p.c 0)) ∧ w4.cell? ⟨w.heap.size, 1, none⟩ = some (.int .i64 (p.c 1)) ∧ w4.cell? ⟨w.heap.size, 2, none⟩ = some (.int .i64 (p.c 2)) ∧ w4.cell? ⟨w.heap.size, 3, none⟩ = some (.int .i64 (p.c 3)) ∧ w4.cell? ⟨w.heap.size, 4, none⟩ = some (.int .i64 (p.c 4)) ∧ w4.cell? ⟨w.heap.size, 5, none⟩ = some (.int .i64 (p.c 5)) ∧ w4.cell? ⟨w.heap.size, 6, none⟩ = some (.int .i64 (p.c 6)) ∧ w4.cell? ⟨w.heap.size, 7, none⟩ = some (.int .i64 (p.c 7)) ∧ w4.cell? ⟨w.heap.size, 8, none⟩ = some (.int .i64 (p.c 8)) ∧ w4.cell? ⟨w.heap.size, 9, none⟩ = some (.int .i64 (p.c 9)) ∧ w4.cell? ⟨w.heap.size, 10, none⟩ = some (.int .i64 (p.c 10)) ∧ w4.cell? ⟨w.heap.size, 11, none⟩ = some (.int .i64 (p.c 11)) ∧ w4.cell? ⟨w.heap.size, 12, none⟩ = some (.int .i64 (p.c 12)) ∧ w4.cell? ⟨w.heap.size, 13, none⟩ = some (.int .i64 (p.c 13)) := ⟨K.out.cell 0, K.out.cell 1, K.out.cell 2, K.out.cell 3, K.out.cell 4, K.out.cell 5, K.out.cell 6, K.out.cell 7, K.out.cell 8, K.out.cell 9, K.out.cell 10, K.out.cell 11, K.out.cell 12, K.out.cell 13⟩
  go_wp2_with fail
  refine (Cf.implConfigOk_any p.c w4).mono ?_
  rintro e w5 ⟨rfl, b5⟩
  clear q0 q1 q2 q3 q4 q5 q6 q7 q8 q9 q10 q11 q12 q13
  replace B := Lib.hid (bel_trans B.out b5)
  clear b5
  have Ho : Hid (z = Cf.okC p.c) := by show _ = _; rw [Hs.out, h1, h2, h3, h4]; rfl
  clear h1 h2 h3 h4 Hs
  go_wp2
  go_ret
  exact ⟨by rw [Ho.out]; rfl, B.out⟩

theorem refS_no {p : Pl} {i : Nat} (hi : i < p.cs.length) (h : refB p.nc (llA p.x) p.cs i = false) : refS p = false := by
  unfold refS
  have : ((List.range p.cs.length).all fun i => refB p.nc (llA p.x) p.cs i) = false := by
    rw [List.all_eq_false]
    exact ⟨i, List.mem_range.2 hi, by rw [h]; simp⟩
  rw [this]
  simp
theorem refS_yes {p : Pl} (h1 : Cf.okC p.c = true) (h2 : okL p.x = true) (h3 : Bk.okB p.b = true) (h4 : p.cs.length ≤ 12) (h : ∀ i, i < p.cs.length → refB p.nc (llA p.x) p.cs i = true) : refS p = ((llA p.x).all fun t => decide (t < p.nt)) := by
  unfold refS
  have : ((List.range p.cs.length).all fun i => refB p.nc (llA p.x) p.cs i) = true := by
    rw [List.all_eq_true]
    exact fun i hi => h i (List.mem_range.1 hi)
  rw [h1, h2, h3, this, decide_eq_true h4]
  rfl
theorem all_drop (f : Int → Bool) (ts : List Int) (k : Nat) (h : k < ts.length) {t : Int} (ht : ts.getD k 0 = t) : (ts.drop k).all f = (f t && (ts.drop (k + 1)).all f) := by
  have e : ts[k] = t := by rw [← ht]; simp [List.getD_eq_getElem?_getD, h]
  rw [List.drop_eq_getElem_cons h, e, List.all_cons]

/-- What region 8 reads: the pool's box, the box of the connection, the Id of the one ahead of it. -/
structure S8 (g gc gp : Nat) (vs us : Array Value) (k : Nat) (y : Int) (V : World) : Prop where
  p : Bx V g 38 vs
  c : Bx V gc 76 us
  y : 0 < k → V.cell? ⟨gp, (k - 1) * 6, none⟩ = some (.int .i64 y)

set_option maxRecDepth 100000 in
set_option maxHeartbeats 16000000 in
theorem specPoolSafe_any (a : PA) (p : Pl) (R : RP) (w : World) (hn : Few p 1048576) (h : PM w R a p) (hR : R.In 0 w.heap.size) :
    Calls Try.prog 22 #[.agg #[.int .i64 (p.c 0), .int .i64 (p.c 1), .int .i64 (p.c 2), .int .i64 (p.c 3), .int .i64 (p.c 4), .int .i64 (p.c 5), .int .i64 (p.c 6), .int .i64 (p.c 7), .int .i64 (p.c 8), .int .i64 (p.c 9), .int .i64 (p.c 10), .int .i64 (p.c 11), .int .i64 (p.c 12), .int .i64 (p.c 13), .int .i64 p.now, .int .i64 p.mode, .int .i64 p.nc, .int .i64 p.nt, .slice a.C p.cs.length a.cc, .slice a.A p.x.s.ss.length a.ca, .int .i64 p.x.s.f, .int .i64 p.x.s.l, .int .i64 p.x.s.r, .int .i64 p.x.s.c, .slice a.B p.x.ds.length a.cb, .int .i64 p.x.q, .int .i64 p.b.state, .slice a.F p.b.fails.length a.fc, .int .i64 p.b.till, .int .i64 p.fails, .int .i64 p.redial, .int .i64 p.drain]] w fun e w' => e = .returned (.bool (safeB p)) ∧ Below w.heap.size w w' := by
  rw [← ref_safe]
  have H := Lib.hid h
  have HR := Lib.hid hR
  have Hn := Lib.hid hn
  clear h hR hn
  have Hs : Hid (refS p = (Cf.okC p.c && okL p.x && Bk.okB p.b && decide (p.cs.length ≤ 12) && ((List.range p.cs.length).all fun i => refB p.nc (llA p.x) p.cs i) && (llA p.x).all fun t => decide (t < p.nt))) := Lib.hid rfl
  go_enter Try.func22, Try.ntmps22
  go_wp2_with fail
  refine (Cf.specConfigOk_any p.c _).mono ?_
  rintro e w1 ⟨rfl, b1⟩
  have K : Hid (Bx w1 w.heap.size 38 #[.int .i64 (p.c 0), .int .i64 (p.c 1), .int .i64 (p.c 2), .int .i64 (p.c 3), .int .i64 (p.c 4), .int .i64 (p.c 5), .int .i64 (p.c 6), .int .i64 (p.c 7), .int .i64 (p.c 8), .int .i64 (p.c 9), .int .i64 (p.c 10), .int .i64 (p.c 11), .int .i64 (p.c 12), .int .i64 (p.c 13), .int .i64 p.now, .int .i64 p.mode, .int .i64 p.nc, .int .i64 p.nt, .slice a.C p.cs.length a.cc, .slice a.A p.x.s.ss.length a.ca, .int .i64 p.x.s.f, .int .i64 p.x.s.l, .int .i64 p.x.s.r, .int .i64 p.x.s.c, .slice a.B p.x.ds.length a.cb, .int .i64 p.x.q, .int .i64 p.b.state, .slice a.F p.b.fails.length a.fc, .int .i64 p.b.till, .int .i64 p.fails, .int .i64 p.redial, .int .i64 p.drain]) := (Bx.new w _ _).below b1
  have B := Lib.hid (bel_trans (bel_alloc w _) b1)
  clear b1
  cases h1 : Cf.okC p.c
  · have Ho : Hid (refS p = false) := by show _ = _; rw [Hs.out, h1]; rfl
    clear h1 Hs
    go_wp2
    go_ret
    exact ⟨by rw [Ho.out]; rfl, B.out⟩
  obtain ⟨q19, q20, q21, q22, q23, q24, q25⟩ : w1.cell? ⟨w.heap.size, 19, none⟩ = some (.slice a.A p.x.s.ss.length a.ca) ∧ w1.cell? ⟨w.heap.size, 20, none⟩ = some (.int .i64 p.x.s.f) ∧ w1.cell? ⟨w.heap.size, 21, none⟩ = some (.int .i64 p.x.s.l) ∧ w1.cell? ⟨w.heap.size, 22, none⟩ = some (.int .i64 p.x.s.r) ∧ w1.cell? ⟨w.heap.size, 23, none⟩ = some (.int .i64 p.x.s.c) ∧ w1.cell? ⟨w.heap.size, 24, none⟩ = some (.slice a.B p.x.ds.length a.cb) ∧ w1.cell? ⟨w.heap.size, 25, none⟩ = some (.int .i64 p.x.q) := ⟨K.out.cell 19, K.out.cell 20, K.out.cell 21, K.out.cell 22, K.out.cell 23, K.out.cell 24, K.out.cell 25⟩
  go_wp2_with fail
  refine (specLineOk_any a.A a.ca p.x a.B a.cb R.L w1 Hn.out.s Hn.out.h (H.out.x.below B.out HR.out.L) (HR.out.L.wide (Nat.le_refl _) B.out.size)).mono ?_
  rintro e w2 ⟨rfl, b2⟩
  clear q19 q20 q21 q22 q23 q24 q25
  replace K := Lib.hid (K.out.below b2)
  replace B := Lib.hid (bel_trans B.out b2)
  clear b2
  cases h2 : okL p.x
  · have Ho : Hid (refS p = false) := by show _ = _; rw [Hs.out, h1, h2]; rfl
    clear h1 h2 Hs
    go_wp2
    go_ret
    exact ⟨by rw [Ho.out]; rfl, B.out⟩
  obtain ⟨q26, q27, q28⟩ : w2.cell? ⟨w.heap.size, 26, none⟩ = some (.int .i64 p.b.state) ∧ w2.cell? ⟨w.heap.size, 27, none⟩ = some (.slice a.F p.b.fails.length a.fc) ∧ w2.cell? ⟨w.heap.size, 28, none⟩ = some (.int .i64 p.b.till) := ⟨K.out.cell 26, K.out.cell 27, K.out.cell 28⟩
  go_wp2_with fail
  refine (Bk.specBreakerOk_any a.F _ a.fc p.b.state p.b.till p.b.fails w2 rfl Hn.out.f (H.out.f.below B.out HR.out.f').ints).mono ?_
  rintro e w3 ⟨rfl, b3⟩
  clear q26 q27 q28
  replace K := Lib.hid (K.out.below b3)
  replace B := Lib.hid (bel_trans B.out b3)
  clear b3
  cases h3 : Bk.okB p.b
  · have Ho : Hid (refS p = false) := by show _ = _; rw [Hs.out, h1, h2, h3]; rfl
    clear h1 h2 h3 Hs
    go_wp2
    go_ret
    exact ⟨by rw [Ho.out]; rfl, B.out⟩
  have q18 : w3.cell? ⟨w.heap.size, 18, none⟩ = some (.slice a.C p.cs.length a.cc) := K.out.cell 18
  by_cases h12 : 12 < p.cs.length
  · have Ho : Hid (refS p = false) := by show _ = _; rw [Hs.out, h1, h2, h3, decide_eq_false (by omega)]; rfl
    clear h1 h2 h3 Hs
    go_wp2
    go_ret
    exact ⟨by rw [Ho.out]; rfl, B.out⟩
  have Hy : Hid ((∀ i, i < p.cs.length → refB p.nc (llA p.x) p.cs i = true) → refS p = ((llA p.x).all fun t => decide (t < p.nt))) := Lib.hid (refS_yes h1 h2 h3 (by omega))
  clear Hs h1 h2 h3
  obtain ⟨q19, q20, q21, q22, q23, q24, q25⟩ : w3.cell? ⟨w.heap.size, 19, none⟩ = some (.slice a.A p.x.s.ss.length a.ca) ∧ w3.cell? ⟨w.heap.size, 20, none⟩ = some (.int .i64 p.x.s.f) ∧ w3.cell? ⟨w.heap.size, 21, none⟩ = some (.int .i64 p.x.s.l) ∧ w3.cell? ⟨w.heap.size, 22, none⟩ = some (.int .i64 p.x.s.r) ∧ w3.cell? ⟨w.heap.size, 23, none⟩ = some (.int .i64 p.x.s.c) ∧ w3.cell? ⟨w.heap.size, 24, none⟩ = some (.slice a.B p.x.ds.length a.cb) ∧ w3.cell? ⟨w.heap.size, 25, none⟩ = some (.int .i64 p.x.q) := ⟨K.out.cell 19, K.out.cell 20, K.out.cell 21, K.out.cell 22, K.out.cell 23, K.out.cell 24, K.out.cell 25⟩
  go_wp2_with fail
  refine (specList_any a.A a.ca p.x a.B a.cb R.L w3 Hn.out.s Hn.out.h (H.out.x.below B.out HR.out.L) (HR.out.L.wide (Nat.le_refl _) B.out.size)).mono ?_
  rintro e w4 ⟨G, cg, rfl, v4, b4⟩
  clear q18 q19 q20 q21 q22 q23 q24 q25
  replace K := Lib.hid (K.out.below b4)
  replace B := Lib.hid (bel_trans B.out b4)
  have HV := Lib.hid v4
  clear b4 v4
  have hl60 := ll_few p.x
  obtain ⟨ts, hts⟩ : ∃ ts, llA p.x = ts := ⟨_, rfl⟩
  have Hts := Lib.hid hts
  rw [hts] at hl60 HV Hy ⊢
  clear hts
  have zw := B.out.size
  have zk := K.out.lt
  go_wp2
  go_loopw [4] (fun i wr => ∃ k : Nat, k ≤ p.cs.length ∧ i = .int .i64 k ∧ (∀ i, i < k → refB p.nc ts p.cs i = true) ∧ Below w4.heap.size w4 wr) (fun i _ => p.cs.length - (intOf i).toNat)
  case atStart => exact ⟨0, Nat.zero_le _, rfl, fun i hi => absurd hi (by omega), Below.refl _ _⟩
  case round =>
    obtain ⟨wo, rfl⟩ : ∃ wo, wo = wr := ⟨_, rfl⟩
    obtain ⟨k, hk, rfl, hall, hr⟩ := hrel
    have Hall := Lib.hid hall
    have KB := Lib.hid (K.out.below hr)
    have BW := Lib.hid (bel_trans B.out hr)
    have HVr := Lib.hid (HV.out.below hr (Nat.le_refl _))
    have zr0 := hr.size
    have HRr := Lib.hid hr
    clear hall hr
    have q18 : wo.cell? ⟨w.heap.size, 18, none⟩ = some (.slice a.C p.cs.length a.cc) := KB.out.cell 18
    by_cases hlt : k < p.cs.length
    · obtain ⟨g, hg, _, hg2, hc⟩ := (H.out.cs.below BW.out HR.out.c') (by omega)
      obtain ⟨c0, c1, c2, c3, c4, c5⟩ := (hc k hlt).1.six
      have hprev : 0 < k → wo.cell? ⟨g, (k - 1) * 6, none⟩ = some (.int .i64 ((p.cs.getD (k - 1) zCn).1 0)) := fun h0 => (hc (k - 1) (by omega)).1.six.1
      have hgl : g < wo.heap.size := World.block_lt_of_cell? _ _ c0
      obtain ⟨x, hx⟩ : ∃ x, p.cs.getD k zCn = x := ⟨_, rfl⟩
      rw [hx] at c0 c1 c2 c3 c4 c5
      have HC := Lib.hid hc
      clear hc
      obtain ⟨y, hy⟩ : ∃ y, (p.cs.getD (k - 1) zCn).1 0 = y := ⟨_, rfl⟩
      rw [hy] at hprev
      have Hx := Lib.hid hx
      have Hyy := Lib.hid hy
      have Hprev := Lib.hid hprev
      clear hx hy hprev
      obtain ⟨x, xt⟩ := x
      dsimp only at c0 c1 c2 c3 c4 c5
      rw [hg] at q18 ⊢
      have HF : Hid (refB p.nc ts p.cs k = (Kn.okN x xt && !(x 1 == 4) && decide (x 0 < p.nc) && (k == 0 || decide (y < x 0)) && (!(x 1 == 3) || (!decide (x 4 ∈ ts) && (List.range k).all fun j => !((p.cs.getD j zCn).1 4 == x 4))))) := by
        show _ = _
        unfold refB
        rw [Hx.out, Hyy.out]
      go_upto_region 8 with fail
      obtain ⟨w5, hw5⟩ : ∃ w5, wo.alloc (.cells #[.int .i64 (x 0), .int .i64 (x 1), .int .i64 (x 2), .int .i64 (x 3), .int .i64 (x 4), .bool xt] 76) = w5 := ⟨_, rfl⟩
      have b5 : Below wo.heap.size wo w5 := by rw [← hw5]; exact bel_alloc _ _
      have Q5 : Hid (Bx w5 wo.heap.size 76 #[.int .i64 (x 0), .int .i64 (x 1), .int .i64 (x 2), .int .i64 (x 3), .int .i64 (x 4), .bool xt]) := by rw [← hw5]; exact Bx.new wo _ _
      rw [hw5]
      clear hw5 q18 c0 c1 c2 c3 c4 c5
      replace KB : Hid (Bx w5 w.heap.size 38 #[.int .i64 (p.c 0), .int .i64 (p.c 1), .int .i64 (p.c 2), .int .i64 (p.c 3), .int .i64 (p.c 4), .int .i64 (p.c 5), .int .i64 (p.c 6), .int .i64 (p.c 7), .int .i64 (p.c 8), .int .i64 (p.c 9), .int .i64 (p.c 10), .int .i64 (p.c 11), .int .i64 (p.c 12), .int .i64 (p.c 13), .int .i64 p.now, .int .i64 p.mode, .int .i64 p.nc, .int .i64 p.nt, .slice a.C p.cs.length a.cc, .slice a.A p.x.s.ss.length a.ca, .int .i64 p.x.s.f, .int .i64 p.x.s.l, .int .i64 p.x.s.r, .int .i64 p.x.s.c, .slice a.B p.x.ds.length a.cb, .int .i64 p.x.q, .int .i64 p.b.state, .slice a.F p.b.fails.length a.fc, .int .i64 p.b.till, .int .i64 p.fails, .int .i64 p.redial, .int .i64 p.drain]) := KB.out.below b5
      rw [hg] at KB
      have HS : Hid (S8 w.heap.size wo.heap.size g #[.int .i64 (p.c 0), .int .i64 (p.c 1), .int .i64 (p.c 2), .int .i64 (p.c 3), .int .i64 (p.c 4), .int .i64 (p.c 5), .int .i64 (p.c 6), .int .i64 (p.c 7), .int .i64 (p.c 8), .int .i64 (p.c 9), .int .i64 (p.c 10), .int .i64 (p.c 11), .int .i64 (p.c 12), .int .i64 (p.c 13), .int .i64 p.now, .int .i64 p.mode, .int .i64 p.nc, .int .i64 p.nt, .slice (some ⟨g, 0, none⟩) p.cs.length a.cc, .slice a.A p.x.s.ss.length a.ca, .int .i64 p.x.s.f, .int .i64 p.x.s.l, .int .i64 p.x.s.r, .int .i64 p.x.s.c, .slice a.B p.x.ds.length a.cb, .int .i64 p.x.q, .int .i64 p.b.state, .slice a.F p.b.fails.length a.fc, .int .i64 p.b.till, .int .i64 p.fails, .int .i64 p.redial, .int .i64 p.drain] #[.int .i64 (x 0), .int .i64 (x 1), .int .i64 (x 2), .int .i64 (x 3), .int .i64 (x 4), .bool xt] k y w5.drew) := ⟨KB.out, Q5.out, fun h0 => (b5.cell (p := ⟨g, (k - 1) * 6, none⟩) hgl).trans (Hprev.out h0)⟩
      refine wp_region_held_drew (S := S8 w.heap.size wo.heap.size g #[.int .i64 (p.c 0), .int .i64 (p.c 1), .int .i64 (p.c 2), .int .i64 (p.c 3), .int .i64 (p.c 4), .int .i64 (p.c 5), .int .i64 (p.c 6), .int .i64 (p.c 7), .int .i64 (p.c 8), .int .i64 (p.c 9), .int .i64 (p.c 10), .int .i64 (p.c 11), .int .i64 (p.c 12), .int .i64 (p.c 13), .int .i64 p.now, .int .i64 p.mode, .int .i64 p.nc, .int .i64 p.nt, .slice (some ⟨g, 0, none⟩) p.cs.length a.cc, .slice a.A p.x.s.ss.length a.ca, .int .i64 p.x.s.f, .int .i64 p.x.s.l, .int .i64 p.x.s.r, .int .i64 p.x.s.c, .slice a.B p.x.ds.length a.cb, .int .i64 p.x.q, .int .i64 p.b.state, .slice a.F p.b.fails.length a.fc, .int .i64 p.b.till, .int .i64 p.fails, .int .i64 p.redial, .int .i64 p.drain] #[.int .i64 (x 0), .int .i64 (x 1), .int .i64 (x 2), .int .i64 (x 3), .int .i64 (x 4), .bool xt] k y) (by kernel_rfl) HS.out (fun _ => ?_)
      refine wpAnyH_take (i := 0) (v := .agg #[.int .i64 (x 0), .int .i64 (x 1), .int .i64 (x 2), .int .i64 (x 3), .int .i64 (x 4), .bool xt]) rfl (by kernel_rfl) (by kernel_rfl) (by kernel_rfl) (fun _ _ _ h => h) (yieldsIf_load_mid rfl 76 (.tmp 5) rfl wo.heap.size 0 rfl [.int .i64 (x 0), .int .i64 (x 1), .int .i64 (x 2), .int .i64 (x 3), .int .i64 (x 4), .bool xt] _ (fun V hS => bx_range hS.c) Try.underlying76 rfl (by kernel_rfl)) HS.out ?_
      go_simp
      refine wpAnyH_ready (rs := [1]) (by kernel_rfl) (by simp) (AllReadyH.cons rfl (fun J hJ => ?_) AllReadyH.nil)
      go_simp
      refine (Kn.specConnOk_any x xt w5.drew).mono ?_
      rintro e w6 ⟨rfl, b6⟩
      have b56 := bel_trans b5 (bel_of_drew b6)
      have Hb56 := Lib.hid b56
      replace KB := Lib.hid (KB.out.below (bel_of_drew b6))
      replace Q5 := Lib.hid (Q5.out.below (bel_of_drew b6))
      have HS' : Hid (S8 w.heap.size wo.heap.size g #[.int .i64 (p.c 0), .int .i64 (p.c 1), .int .i64 (p.c 2), .int .i64 (p.c 3), .int .i64 (p.c 4), .int .i64 (p.c 5), .int .i64 (p.c 6), .int .i64 (p.c 7), .int .i64 (p.c 8), .int .i64 (p.c 9), .int .i64 (p.c 10), .int .i64 (p.c 11), .int .i64 (p.c 12), .int .i64 (p.c 13), .int .i64 p.now, .int .i64 p.mode, .int .i64 p.nc, .int .i64 p.nt, .slice (some ⟨g, 0, none⟩) p.cs.length a.cc, .slice a.A p.x.s.ss.length a.ca, .int .i64 p.x.s.f, .int .i64 p.x.s.l, .int .i64 p.x.s.r, .int .i64 p.x.s.c, .slice a.B p.x.ds.length a.cb, .int .i64 p.x.q, .int .i64 p.b.state, .slice a.F p.b.fails.length a.fc, .int .i64 p.b.till, .int .i64 p.fails, .int .i64 p.redial, .int .i64 p.drain] #[.int .i64 (x 0), .int .i64 (x 1), .int .i64 (x 2), .int .i64 (x 3), .int .i64 (x 4), .bool xt] k y w6) := ⟨KB.out, Q5.out, fun h0 => (b56.cell (p := ⟨g, (k - 1) * 6, none⟩) hgl).trans (Hprev.out h0)⟩
      replace BW := Lib.hid (bel_trans BW.out b56)
      replace HRr := Lib.hid (bel_trans HRr.out b56)
      have HVs := Lib.hid (HVr.out.below b56 (by omega))
      have zr := b56.size
      clear b5 b6 b56 HS
      have HS := HS'
      clear HS'
      refine hJ.out _ _ HS.out (fun _ => ?_)
      clear hJ J
      go_simp
      cases hok : Kn.okN x xt
      · have Ho := Lib.hid (refS_no hlt (by rw [Hts.out, HF.out, hok]; rfl))
        clear hok
        refine wpAnyH_take (i := 2) (v := .bool true) rfl (by kernel_rfl) (by kernel_rfl) (by kernel_rfl) (fun _ _ _ h => h) (.inl ⟨rfl, fun V hS => ?y0⟩) HS.out ?_
        case y0 =>
          clear hS
          go_simp
        go_simp
        refine wpAnyH_take (i := 3) (v := .bool true) rfl (by kernel_rfl) (by kernel_rfl) (by kernel_rfl) (fun _ _ _ h => h) (.inl ⟨rfl, fun V hS => ?y0⟩) HS.out ?_
        case y0 =>
          clear hS
          go_simp
        go_simp
        refine wpAnyH_take (i := 4) (v := undef) rfl (by kernel_rfl) (by kernel_rfl) (by kernel_rfl) (fun _ _ _ h => h) (.inr ⟨rfl, rfl⟩) HS.out ?_
        go_simp
        refine wpAnyH_take (i := 5) (v := undef) rfl (by kernel_rfl) (by kernel_rfl) (by kernel_rfl) (fun _ _ _ h => h) (.inr ⟨rfl, rfl⟩) HS.out ?_
        go_simp
        refine wpAnyH_take (i := 6) (v := undef) rfl (by kernel_rfl) (by kernel_rfl) (by kernel_rfl) (fun _ _ _ h => h) (.inr ⟨rfl, rfl⟩) HS.out ?_
        go_simp
        refine wpAnyH_take (i := 7) (v := .bool true) rfl (by kernel_rfl) (by kernel_rfl) (by kernel_rfl) (fun _ _ _ h => h) (.inl ⟨rfl, fun V hS => ?y0⟩) HS.out ?_
        case y0 =>
          clear hS
          go_simp
        go_simp
        refine wpAnyH_take (i := 8) (v := .bool true) rfl (by kernel_rfl) (by kernel_rfl) (by kernel_rfl) (fun _ _ _ h => h) (.inl ⟨rfl, fun V hS => ?y0⟩) HS.out ?_
        case y0 =>
          clear hS
          go_simp
        go_simp
        refine wpAnyH_take (i := 9) (v := undef) rfl (by kernel_rfl) (by kernel_rfl) (by kernel_rfl) (fun _ _ _ h => h) (.inr ⟨rfl, rfl⟩) HS.out ?_
        go_simp
        refine wpAnyH_take (i := 10) (v := undef) rfl (by kernel_rfl) (by kernel_rfl) (by kernel_rfl) (fun _ _ _ h => h) (.inr ⟨rfl, rfl⟩) HS.out ?_
        go_simp
        refine wpAnyH_take (i := 11) (v := undef) rfl (by kernel_rfl) (by kernel_rfl) (by kernel_rfl) (fun _ _ _ h => h) (.inr ⟨rfl, rfl⟩) HS.out ?_
        go_simp
        refine wpAnyH_take (i := 12) (v := undef) rfl (by kernel_rfl) (by kernel_rfl) (by kernel_rfl) (fun _ _ _ h => h) (.inr ⟨rfl, rfl⟩) HS.out ?_
        go_simp
        refine wpAnyH_take (i := 13) (v := undef) rfl (by kernel_rfl) (by kernel_rfl) (by kernel_rfl) (fun _ _ _ h => h) (.inr ⟨rfl, rfl⟩) HS.out ?_
        go_simp
        refine wpAnyH_take (i := 14) (v := .bool true) rfl (by kernel_rfl) (by kernel_rfl) (by kernel_rfl) (fun _ _ _ h => h) (.inl ⟨rfl, fun V hS => ?y0⟩) HS.out ?_
        case y0 =>
          clear hS
          go_simp
        go_simp
        refine wpAnyH_take (i := 15) (v := .bool true) rfl (by kernel_rfl) (by kernel_rfl) (by kernel_rfl) (fun _ _ _ h => h) (.inl ⟨rfl, fun V hS => ?y0⟩) HS.out ?_
        case y0 =>
          clear hS
          go_simp
        go_simp
        refine wpAnyH_take (i := 16) (v := undef) rfl (by kernel_rfl) (by kernel_rfl) (by kernel_rfl) (fun _ _ _ h => h) (.inr ⟨rfl, rfl⟩) HS.out ?_
        go_simp
        refine wpAnyH_take (i := 17) (v := undef) rfl (by kernel_rfl) (by kernel_rfl) (by kernel_rfl) (fun _ _ _ h => h) (.inr ⟨rfl, rfl⟩) HS.out ?_
        go_simp
        refine wpAnyH_take (i := 18) (v := undef) rfl (by kernel_rfl) (by kernel_rfl) (by kernel_rfl) (fun _ _ _ h => h) (.inr ⟨rfl, rfl⟩) HS.out ?_
        go_simp
        refine wpAnyH_take (i := 19) (v := undef) rfl (by kernel_rfl) (by kernel_rfl) (by kernel_rfl) (fun _ _ _ h => h) (.inr ⟨rfl, rfl⟩) HS.out ?_
        go_simp
        refine wpAnyH_take (i := 20) (v := undef) rfl (by kernel_rfl) (by kernel_rfl) (by kernel_rfl) (fun _ _ _ h => h) (.inr ⟨rfl, rfl⟩) HS.out ?_
        go_simp
        refine wpAnyH_take (i := 21) (v := undef) rfl (by kernel_rfl) (by kernel_rfl) (by kernel_rfl) (fun _ _ _ h => h) (.inr ⟨rfl, rfl⟩) HS.out ?_
        go_simp
        refine wpAnyH_take (i := 22) (v := undef) rfl (by kernel_rfl) (by kernel_rfl) (by kernel_rfl) (fun _ _ _ h => h) (.inr ⟨rfl, rfl⟩) HS.out ?_
        go_simp
        refine wpAnyH_take (i := 23) (v := undef) rfl (by kernel_rfl) (by kernel_rfl) (by kernel_rfl) (fun _ _ _ h => h) (.inr ⟨rfl, rfl⟩) HS.out ?_
        go_simp
        refine wpAnyH_take (i := 24) (v := undef) rfl (by kernel_rfl) (by kernel_rfl) (by kernel_rfl) (fun _ _ _ h => h) (.inr ⟨rfl, rfl⟩) HS.out ?_
        go_simp
        refine wpAnyH_take (i := 25) (v := undef) rfl (by kernel_rfl) (by kernel_rfl) (by kernel_rfl) (fun _ _ _ h => h) (.inr ⟨rfl, rfl⟩) HS.out ?_
        go_simp
        refine wpAnyH_take (i := 26) (v := undef) rfl (by kernel_rfl) (by kernel_rfl) (by kernel_rfl) (fun _ _ _ h => h) (.inr ⟨rfl, rfl⟩) HS.out ?_
        go_simp
        refine wpAnyH_take (i := 27) (v := undef) rfl (by kernel_rfl) (by kernel_rfl) (by kernel_rfl) (fun _ _ _ h => h) (.inr ⟨rfl, rfl⟩) HS.out ?_
        go_simp
        refine wpAnyH_take (i := 28) (v := undef) rfl (by kernel_rfl) (by kernel_rfl) (by kernel_rfl) (fun _ _ _ h => h) (.inr ⟨rfl, rfl⟩) HS.out ?_
        go_simp
        refine wpAnyH_take (i := 29) (v := undef) rfl (by kernel_rfl) (by kernel_rfl) (by kernel_rfl) (fun _ _ _ h => h) (.inr ⟨rfl, rfl⟩) HS.out ?_
        go_simp
        refine wpAnyH_take (i := 30) (v := .bool true) rfl (by kernel_rfl) (by kernel_rfl) (by kernel_rfl) (fun _ _ _ h => h) (.inl ⟨rfl, fun V hS => ?y0⟩) HS.out ?_
        case y0 =>
          clear hS
          go_simp
        go_simp
        refine wpAnyH_done (by kernel_rfl) ?_ _
        go_wp2
        go_ret
        exact ⟨by rw [Ho.out]; rfl, BW.out⟩
      by_cases h4 : x 1 = 4
      · have Ho := Lib.hid (refS_no hlt (by rw [Hts.out, HF.out, hok, h4]; rfl))
        have h4' : (x 1 == 4) = true := by simpa using h4
        clear hok h4
        refine wpAnyH_take (i := 2) (v := .bool false) rfl (by kernel_rfl) (by kernel_rfl) (by kernel_rfl) (fun _ _ _ h => h) (.inl ⟨rfl, fun V hS => ?y0⟩) HS.out ?_
        case y0 =>
          clear hS
          go_simp
        go_simp
        refine wpAnyH_take (i := 3) (v := .bool false) rfl (by kernel_rfl) (by kernel_rfl) (by kernel_rfl) (fun _ _ _ h => h) (.inl ⟨rfl, fun V hS => ?y0⟩) HS.out ?_
        case y0 =>
          clear hS
          go_simp
        go_simp
        refine wpAnyH_take (i := 4) (v := .pointer (some ⟨wo.heap.size, 1, none⟩)) rfl (by kernel_rfl) (by kernel_rfl) (by kernel_rfl) (fun _ _ _ h => h) (.inl ⟨rfl, fun V hS => ?y0⟩) HS.out ?_
        case y0 =>
          clear hS
          go_simp
        go_simp
        refine wpAnyH_take (i := 5) (v := .int .i64 (x 1)) rfl (by kernel_rfl) (by kernel_rfl) (by kernel_rfl) (fun _ _ _ h => h) (.inl ⟨rfl, fun V hS => ?y0⟩) HS.out ?_
        case y0 =>
          have z := hS.c.cell 1
          clear hS
          go_simp
        go_simp
        refine wpAnyH_take (i := 6) (v := .bool true) rfl (by kernel_rfl) (by kernel_rfl) (by kernel_rfl) (fun _ _ _ h => h) (.inl ⟨rfl, fun V hS => ?y0⟩) HS.out ?_
        case y0 =>
          clear hS
          go_simp
        go_simp
        refine wpAnyH_take (i := 7) (v := .bool true) rfl (by kernel_rfl) (by kernel_rfl) (by kernel_rfl) (fun _ _ _ h => h) (.inl ⟨rfl, fun V hS => ?y0⟩) HS.out ?_
        case y0 =>
          clear hS
          go_simp
        go_simp
        refine wpAnyH_take (i := 8) (v := .bool true) rfl (by kernel_rfl) (by kernel_rfl) (by kernel_rfl) (fun _ _ _ h => h) (.inl ⟨rfl, fun V hS => ?y0⟩) HS.out ?_
        case y0 =>
          clear hS
          go_simp
        go_simp
        refine wpAnyH_take (i := 9) (v := undef) rfl (by kernel_rfl) (by kernel_rfl) (by kernel_rfl) (fun _ _ _ h => h) (.inr ⟨rfl, rfl⟩) HS.out ?_
        go_simp
        refine wpAnyH_take (i := 10) (v := undef) rfl (by kernel_rfl) (by kernel_rfl) (by kernel_rfl) (fun _ _ _ h => h) (.inr ⟨rfl, rfl⟩) HS.out ?_
        go_simp
        refine wpAnyH_take (i := 11) (v := undef) rfl (by kernel_rfl) (by kernel_rfl) (by kernel_rfl) (fun _ _ _ h => h) (.inr ⟨rfl, rfl⟩) HS.out ?_
        go_simp
        refine wpAnyH_take (i := 12) (v := undef) rfl (by kernel_rfl) (by kernel_rfl) (by kernel_rfl) (fun _ _ _ h => h) (.inr ⟨rfl, rfl⟩) HS.out ?_
        go_simp
        refine wpAnyH_take (i := 13) (v := undef) rfl (by kernel_rfl) (by kernel_rfl) (by kernel_rfl) (fun _ _ _ h => h) (.inr ⟨rfl, rfl⟩) HS.out ?_
        go_simp
        refine wpAnyH_take (i := 14) (v := .bool true) rfl (by kernel_rfl) (by kernel_rfl) (by kernel_rfl) (fun _ _ _ h => h) (.inl ⟨rfl, fun V hS => ?y0⟩) HS.out ?_
        case y0 =>
          clear hS
          go_simp
        go_simp
        refine wpAnyH_take (i := 15) (v := .bool true) rfl (by kernel_rfl) (by kernel_rfl) (by kernel_rfl) (fun _ _ _ h => h) (.inl ⟨rfl, fun V hS => ?y0⟩) HS.out ?_
        case y0 =>
          clear hS
          go_simp
        go_simp
        refine wpAnyH_take (i := 16) (v := undef) rfl (by kernel_rfl) (by kernel_rfl) (by kernel_rfl) (fun _ _ _ h => h) (.inr ⟨rfl, rfl⟩) HS.out ?_
        go_simp
        refine wpAnyH_take (i := 17) (v := undef) rfl (by kernel_rfl) (by kernel_rfl) (by kernel_rfl) (fun _ _ _ h => h) (.inr ⟨rfl, rfl⟩) HS.out ?_
        go_simp
        refine wpAnyH_take (i := 18) (v := undef) rfl (by kernel_rfl) (by kernel_rfl) (by kernel_rfl) (fun _ _ _ h => h) (.inr ⟨rfl, rfl⟩) HS.out ?_
        go_simp
        refine wpAnyH_take (i := 19) (v := undef) rfl (by kernel_rfl) (by kernel_rfl) (by kernel_rfl) (fun _ _ _ h => h) (.inr ⟨rfl, rfl⟩) HS.out ?_
        go_simp
        refine wpAnyH_take (i := 20) (v := undef) rfl (by kernel_rfl) (by kernel_rfl) (by kernel_rfl) (fun _ _ _ h => h) (.inr ⟨rfl, rfl⟩) HS.out ?_
        go_simp
        refine wpAnyH_take (i := 21) (v := undef) rfl (by kernel_rfl) (by kernel_rfl) (by kernel_rfl) (fun _ _ _ h => h) (.inr ⟨rfl, rfl⟩) HS.out ?_
        go_simp
        refine wpAnyH_take (i := 22) (v := undef) rfl (by kernel_rfl) (by kernel_rfl) (by kernel_rfl) (fun _ _ _ h => h) (.inr ⟨rfl, rfl⟩) HS.out ?_
        go_simp
        refine wpAnyH_take (i := 23) (v := undef) rfl (by kernel_rfl) (by kernel_rfl) (by kernel_rfl) (fun _ _ _ h => h) (.inr ⟨rfl, rfl⟩) HS.out ?_
        go_simp
        refine wpAnyH_take (i := 24) (v := undef) rfl (by kernel_rfl) (by kernel_rfl) (by kernel_rfl) (fun _ _ _ h => h) (.inr ⟨rfl, rfl⟩) HS.out ?_
        go_simp
        refine wpAnyH_take (i := 25) (v := undef) rfl (by kernel_rfl) (by kernel_rfl) (by kernel_rfl) (fun _ _ _ h => h) (.inr ⟨rfl, rfl⟩) HS.out ?_
        go_simp
        refine wpAnyH_take (i := 26) (v := undef) rfl (by kernel_rfl) (by kernel_rfl) (by kernel_rfl) (fun _ _ _ h => h) (.inr ⟨rfl, rfl⟩) HS.out ?_
        go_simp
        refine wpAnyH_take (i := 27) (v := undef) rfl (by kernel_rfl) (by kernel_rfl) (by kernel_rfl) (fun _ _ _ h => h) (.inr ⟨rfl, rfl⟩) HS.out ?_
        go_simp
        refine wpAnyH_take (i := 28) (v := undef) rfl (by kernel_rfl) (by kernel_rfl) (by kernel_rfl) (fun _ _ _ h => h) (.inr ⟨rfl, rfl⟩) HS.out ?_
        go_simp
        refine wpAnyH_take (i := 29) (v := undef) rfl (by kernel_rfl) (by kernel_rfl) (by kernel_rfl) (fun _ _ _ h => h) (.inr ⟨rfl, rfl⟩) HS.out ?_
        go_simp
        refine wpAnyH_take (i := 30) (v := .bool true) rfl (by kernel_rfl) (by kernel_rfl) (by kernel_rfl) (fun _ _ _ h => h) (.inl ⟨rfl, fun V hS => ?y0⟩) HS.out ?_
        case y0 =>
          clear hS
          go_simp
        go_simp
        refine wpAnyH_done (by kernel_rfl) ?_ _
        go_wp2
        go_ret
        exact ⟨by rw [Ho.out]; rfl, BW.out⟩
      have h4' : (x 1 == 4) = false := by simpa using h4
      clear h4
      by_cases hnc : p.nc ≤ x 0
      · have Ho := Lib.hid (refS_no hlt (by rw [Hts.out, HF.out, hok, h4', decide_eq_false (p := x 0 < p.nc) (by omega)]; rfl))
        clear hok
        refine wpAnyH_take (i := 2) (v := .bool false) rfl (by kernel_rfl) (by kernel_rfl) (by kernel_rfl) (fun _ _ _ h => h) (.inl ⟨rfl, fun V hS => ?y0⟩) HS.out ?_
        case y0 =>
          clear hS
          go_simp
        go_simp
        refine wpAnyH_take (i := 3) (v := .bool false) rfl (by kernel_rfl) (by kernel_rfl) (by kernel_rfl) (fun _ _ _ h => h) (.inl ⟨rfl, fun V hS => ?y0⟩) HS.out ?_
        case y0 =>
          clear hS
          go_simp
        go_simp
        refine wpAnyH_take (i := 4) (v := .pointer (some ⟨wo.heap.size, 1, none⟩)) rfl (by kernel_rfl) (by kernel_rfl) (by kernel_rfl) (fun _ _ _ h => h) (.inl ⟨rfl, fun V hS => ?y0⟩) HS.out ?_
        case y0 =>
          clear hS
          go_simp
        go_simp
        refine wpAnyH_take (i := 5) (v := .int .i64 (x 1)) rfl (by kernel_rfl) (by kernel_rfl) (by kernel_rfl) (fun _ _ _ h => h) (.inl ⟨rfl, fun V hS => ?y0⟩) HS.out ?_
        case y0 =>
          have z := hS.c.cell 1
          clear hS
          go_simp
        go_simp
        refine wpAnyH_take (i := 6) (v := .bool false) rfl (by kernel_rfl) (by kernel_rfl) (by kernel_rfl) (fun _ _ _ h => h) (.inl ⟨rfl, fun V hS => ?y0⟩) HS.out ?_
        case y0 =>
          clear hS
          go_simp
        go_simp
        refine wpAnyH_take (i := 7) (v := .bool false) rfl (by kernel_rfl) (by kernel_rfl) (by kernel_rfl) (fun _ _ _ h => h) (.inl ⟨rfl, fun V hS => ?y0⟩) HS.out ?_
        case y0 =>
          clear hS
          go_simp
        go_simp
        refine wpAnyH_take (i := 8) (v := .bool false) rfl (by kernel_rfl) (by kernel_rfl) (by kernel_rfl) (fun _ _ _ h => h) (.inl ⟨rfl, fun V hS => ?y0⟩) HS.out ?_
        case y0 =>
          clear hS
          go_simp
        go_simp
        refine wpAnyH_take (i := 9) (v := .pointer (some ⟨wo.heap.size, 0, none⟩)) rfl (by kernel_rfl) (by kernel_rfl) (by kernel_rfl) (fun _ _ _ h => h) (.inl ⟨rfl, fun V hS => ?y0⟩) HS.out ?_
        case y0 =>
          clear hS
          go_simp
        go_simp
        refine wpAnyH_take (i := 10) (v := .int .i64 (x 0)) rfl (by kernel_rfl) (by kernel_rfl) (by kernel_rfl) (fun _ _ _ h => h) (.inl ⟨rfl, fun V hS => ?y0⟩) HS.out ?_
        case y0 =>
          have z := hS.c.cell 0
          clear hS
          go_simp
        go_simp
        refine wpAnyH_take (i := 11) (v := .pointer (some ⟨w.heap.size, 16, none⟩)) rfl (by kernel_rfl) (by kernel_rfl) (by kernel_rfl) (fun _ _ _ h => h) (.inl ⟨rfl, fun V hS => ?y0⟩) HS.out ?_
        case y0 =>
          clear hS
          go_simp
        go_simp
        refine wpAnyH_take (i := 12) (v := .int .i64 p.nc) rfl (by kernel_rfl) (by kernel_rfl) (by kernel_rfl) (fun _ _ _ h => h) (.inl ⟨rfl, fun V hS => ?y0⟩) HS.out ?_
        case y0 =>
          have z := hS.p.cell 16
          clear hS
          go_simp
        go_simp
        refine wpAnyH_take (i := 13) (v := .bool true) rfl (by kernel_rfl) (by kernel_rfl) (by kernel_rfl) (fun _ _ _ h => h) (.inl ⟨rfl, fun V hS => ?y0⟩) HS.out ?_
        case y0 =>
          clear hS
          go_simp
        go_simp
        refine wpAnyH_take (i := 14) (v := .bool true) rfl (by kernel_rfl) (by kernel_rfl) (by kernel_rfl) (fun _ _ _ h => h) (.inl ⟨rfl, fun V hS => ?y0⟩) HS.out ?_
        case y0 =>
          clear hS
          go_simp
        go_simp
        refine wpAnyH_take (i := 15) (v := .bool true) rfl (by kernel_rfl) (by kernel_rfl) (by kernel_rfl) (fun _ _ _ h => h) (.inl ⟨rfl, fun V hS => ?y0⟩) HS.out ?_
        case y0 =>
          clear hS
          go_simp
        go_simp
        refine wpAnyH_take (i := 16) (v := undef) rfl (by kernel_rfl) (by kernel_rfl) (by kernel_rfl) (fun _ _ _ h => h) (.inr ⟨rfl, rfl⟩) HS.out ?_
        go_simp
        refine wpAnyH_take (i := 17) (v := undef) rfl (by kernel_rfl) (by kernel_rfl) (by kernel_rfl) (fun _ _ _ h => h) (.inr ⟨rfl, rfl⟩) HS.out ?_
        go_simp
        refine wpAnyH_take (i := 18) (v := undef) rfl (by kernel_rfl) (by kernel_rfl) (by kernel_rfl) (fun _ _ _ h => h) (.inr ⟨rfl, rfl⟩) HS.out ?_
        go_simp
        refine wpAnyH_take (i := 19) (v := undef) rfl (by kernel_rfl) (by kernel_rfl) (by kernel_rfl) (fun _ _ _ h => h) (.inr ⟨rfl, rfl⟩) HS.out ?_
        go_simp
        refine wpAnyH_take (i := 20) (v := undef) rfl (by kernel_rfl) (by kernel_rfl) (by kernel_rfl) (fun _ _ _ h => h) (.inr ⟨rfl, rfl⟩) HS.out ?_
        go_simp
        refine wpAnyH_take (i := 21) (v := undef) rfl (by kernel_rfl) (by kernel_rfl) (by kernel_rfl) (fun _ _ _ h => h) (.inr ⟨rfl, rfl⟩) HS.out ?_
        go_simp
        refine wpAnyH_take (i := 22) (v := undef) rfl (by kernel_rfl) (by kernel_rfl) (by kernel_rfl) (fun _ _ _ h => h) (.inr ⟨rfl, rfl⟩) HS.out ?_
        go_simp
        refine wpAnyH_take (i := 23) (v := undef) rfl (by kernel_rfl) (by kernel_rfl) (by kernel_rfl) (fun _ _ _ h => h) (.inr ⟨rfl, rfl⟩) HS.out ?_
        go_simp
        refine wpAnyH_take (i := 24) (v := undef) rfl (by kernel_rfl) (by kernel_rfl) (by kernel_rfl) (fun _ _ _ h => h) (.inr ⟨rfl, rfl⟩) HS.out ?_
        go_simp
        refine wpAnyH_take (i := 25) (v := undef) rfl (by kernel_rfl) (by kernel_rfl) (by kernel_rfl) (fun _ _ _ h => h) (.inr ⟨rfl, rfl⟩) HS.out ?_
        go_simp
        refine wpAnyH_take (i := 26) (v := undef) rfl (by kernel_rfl) (by kernel_rfl) (by kernel_rfl) (fun _ _ _ h => h) (.inr ⟨rfl, rfl⟩) HS.out ?_
        go_simp
        refine wpAnyH_take (i := 27) (v := undef) rfl (by kernel_rfl) (by kernel_rfl) (by kernel_rfl) (fun _ _ _ h => h) (.inr ⟨rfl, rfl⟩) HS.out ?_
        go_simp
        refine wpAnyH_take (i := 28) (v := undef) rfl (by kernel_rfl) (by kernel_rfl) (by kernel_rfl) (fun _ _ _ h => h) (.inr ⟨rfl, rfl⟩) HS.out ?_
        go_simp
        refine wpAnyH_take (i := 29) (v := undef) rfl (by kernel_rfl) (by kernel_rfl) (by kernel_rfl) (fun _ _ _ h => h) (.inr ⟨rfl, rfl⟩) HS.out ?_
        go_simp
        refine wpAnyH_take (i := 30) (v := .bool true) rfl (by kernel_rfl) (by kernel_rfl) (by kernel_rfl) (fun _ _ _ h => h) (.inl ⟨rfl, fun V hS => ?y0⟩) HS.out ?_
        case y0 =>
          clear hS
          go_simp
        go_simp
        refine wpAnyH_done (by kernel_rfl) ?_ _
        go_wp2
        go_ret
        exact ⟨by rw [Ho.out]; rfl, BW.out⟩
      replace HF : Hid (refB p.nc ts p.cs k = ((k == 0 || decide (y < x 0)) && (!(x 1 == 3) || (!decide (x 4 ∈ ts) && (List.range k).all fun j => !((p.cs.getD j zCn).1 4 == x 4))))) := by show _ = _; rw [HF.out, hok, h4', decide_eq_true (p := x 0 < p.nc) (by omega)]; rfl
      clear hok
      by_cases hlow : 0 < k ∧ x 0 ≤ y
      · have hk0 := hlow.1
        have hly := hlow.2
        have Ho := Lib.hid (refS_no hlt (by rw [Hts.out, HF.out, decide_eq_false (p := y < x 0) (by omega), show (k == 0) = false from by simp; omega]; rfl))
        have hwk : IntKind.i64.wrap ((k : Int) - 1) = ((k - 1 : Nat) : Int) := by rw [IntWalk.i64_in _ (by omega)]; omega
        have hbk : ¬ p.cs.length ≤ k - 1 := by omega
        clear hlow
        refine wpAnyH_take (i := 2) (v := .bool false) rfl (by kernel_rfl) (by kernel_rfl) (by kernel_rfl) (fun _ _ _ h => h) (.inl ⟨rfl, fun V hS => ?y0⟩) HS.out ?_
        case y0 =>
          clear hS
          go_simp
        go_simp
        refine wpAnyH_take (i := 3) (v := .bool false) rfl (by kernel_rfl) (by kernel_rfl) (by kernel_rfl) (fun _ _ _ h => h) (.inl ⟨rfl, fun V hS => ?y0⟩) HS.out ?_
        case y0 =>
          clear hS
          go_simp
        go_simp
        refine wpAnyH_take (i := 4) (v := .pointer (some ⟨wo.heap.size, 1, none⟩)) rfl (by kernel_rfl) (by kernel_rfl) (by kernel_rfl) (fun _ _ _ h => h) (.inl ⟨rfl, fun V hS => ?y0⟩) HS.out ?_
        case y0 =>
          clear hS
          go_simp
        go_simp
        refine wpAnyH_take (i := 5) (v := .int .i64 (x 1)) rfl (by kernel_rfl) (by kernel_rfl) (by kernel_rfl) (fun _ _ _ h => h) (.inl ⟨rfl, fun V hS => ?y0⟩) HS.out ?_
        case y0 =>
          have z := hS.c.cell 1
          clear hS
          go_simp
        go_simp
        refine wpAnyH_take (i := 6) (v := .bool false) rfl (by kernel_rfl) (by kernel_rfl) (by kernel_rfl) (fun _ _ _ h => h) (.inl ⟨rfl, fun V hS => ?y0⟩) HS.out ?_
        case y0 =>
          clear hS
          go_simp
        go_simp
        refine wpAnyH_take (i := 7) (v := .bool false) rfl (by kernel_rfl) (by kernel_rfl) (by kernel_rfl) (fun _ _ _ h => h) (.inl ⟨rfl, fun V hS => ?y0⟩) HS.out ?_
        case y0 =>
          clear hS
          go_simp
        go_simp
        refine wpAnyH_take (i := 8) (v := .bool false) rfl (by kernel_rfl) (by kernel_rfl) (by kernel_rfl) (fun _ _ _ h => h) (.inl ⟨rfl, fun V hS => ?y0⟩) HS.out ?_
        case y0 =>
          clear hS
          go_simp
        go_simp
        refine wpAnyH_take (i := 9) (v := .pointer (some ⟨wo.heap.size, 0, none⟩)) rfl (by kernel_rfl) (by kernel_rfl) (by kernel_rfl) (fun _ _ _ h => h) (.inl ⟨rfl, fun V hS => ?y0⟩) HS.out ?_
        case y0 =>
          clear hS
          go_simp
        go_simp
        refine wpAnyH_take (i := 10) (v := .int .i64 (x 0)) rfl (by kernel_rfl) (by kernel_rfl) (by kernel_rfl) (fun _ _ _ h => h) (.inl ⟨rfl, fun V hS => ?y0⟩) HS.out ?_
        case y0 =>
          have z := hS.c.cell 0
          clear hS
          go_simp
        go_simp
        refine wpAnyH_take (i := 11) (v := .pointer (some ⟨w.heap.size, 16, none⟩)) rfl (by kernel_rfl) (by kernel_rfl) (by kernel_rfl) (fun _ _ _ h => h) (.inl ⟨rfl, fun V hS => ?y0⟩) HS.out ?_
        case y0 =>
          clear hS
          go_simp
        go_simp
        refine wpAnyH_take (i := 12) (v := .int .i64 p.nc) rfl (by kernel_rfl) (by kernel_rfl) (by kernel_rfl) (fun _ _ _ h => h) (.inl ⟨rfl, fun V hS => ?y0⟩) HS.out ?_
        case y0 =>
          have z := hS.p.cell 16
          clear hS
          go_simp
        go_simp
        refine wpAnyH_take (i := 13) (v := .bool false) rfl (by kernel_rfl) (by kernel_rfl) (by kernel_rfl) (fun _ _ _ h => h) (.inl ⟨rfl, fun V hS => ?y0⟩) HS.out ?_
        case y0 =>
          clear hS
          go_simp
        go_simp
        refine wpAnyH_take (i := 14) (v := .bool false) rfl (by kernel_rfl) (by kernel_rfl) (by kernel_rfl) (fun _ _ _ h => h) (.inl ⟨rfl, fun V hS => ?y0⟩) HS.out ?_
        case y0 =>
          clear hS
          go_simp
        go_simp
        refine wpAnyH_take (i := 15) (v := .bool false) rfl (by kernel_rfl) (by kernel_rfl) (by kernel_rfl) (fun _ _ _ h => h) (.inl ⟨rfl, fun V hS => ?y0⟩) HS.out ?_
        case y0 =>
          clear hS
          go_simp
        go_simp
        refine wpAnyH_take (i := 16) (v := .int .i64 (k : Int)) rfl (by kernel_rfl) (by kernel_rfl) (by kernel_rfl) (fun _ _ _ h => h) (.inl ⟨rfl, fun V hS => ?y0⟩) HS.out ?_
        case y0 =>
          clear hS
          go_simp
        go_simp
        refine wpAnyH_take (i := 17) (v := .bool true) rfl (by kernel_rfl) (by kernel_rfl) (by kernel_rfl) (fun _ _ _ h => h) (.inl ⟨rfl, fun V hS => ?y0⟩) HS.out ?_
        case y0 =>
          clear hS
          go_simp
        go_simp
        refine wpAnyH_take (i := 18) (v := .bool true) rfl (by kernel_rfl) (by kernel_rfl) (by kernel_rfl) (fun _ _ _ h => h) (.inl ⟨rfl, fun V hS => ?y0⟩) HS.out ?_
        case y0 =>
          clear hS
          go_simp
        go_simp
        refine wpAnyH_take (i := 19) (v := .pointer (some ⟨w.heap.size, 18, none⟩)) rfl (by kernel_rfl) (by kernel_rfl) (by kernel_rfl) (fun _ _ _ h => h) (.inl ⟨rfl, fun V hS => ?y0⟩) HS.out ?_
        case y0 =>
          clear hS
          go_simp
        go_simp
        refine wpAnyH_take (i := 20) (v := .slice (some ⟨g, 0, none⟩) p.cs.length a.cc) rfl (by kernel_rfl) (by kernel_rfl) (by kernel_rfl) (fun _ _ _ h => h) (.inl ⟨rfl, fun V hS => ?y0⟩) HS.out ?_
        case y0 =>
          have z := hS.p.cell 18
          clear hS
          go_simp
        go_simp
        refine wpAnyH_take (i := 21) (v := .int .i64 (k : Int)) rfl (by kernel_rfl) (by kernel_rfl) (by kernel_rfl) (fun _ _ _ h => h) (.inl ⟨rfl, fun V hS => ?y0⟩) HS.out ?_
        case y0 =>
          clear hS
          go_simp
        go_simp
        refine wpAnyH_take (i := 22) (v := .int .i64 ((k - 1 : Nat) : Int)) rfl (by kernel_rfl) (by kernel_rfl) (by kernel_rfl) (fun _ _ _ h => h) (.inl ⟨rfl, fun V hS => ?y0⟩) HS.out ?_
        case y0 =>
          clear hS
          go_simp
        go_simp
        refine wpAnyH_take (i := 23) (v := .pointer (some ⟨g, (k - 1) * 6, none⟩)) rfl (by kernel_rfl) (by kernel_rfl) (by kernel_rfl) (fun _ _ _ h => h) (.inl ⟨rfl, fun V hS => ?y0⟩) HS.out ?_
        case y0 =>
          clear hS
          go_simp
        go_simp
        refine wpAnyH_take (i := 24) (v := .pointer (some ⟨g, (k - 1) * 6, none⟩)) rfl (by kernel_rfl) (by kernel_rfl) (by kernel_rfl) (fun _ _ _ h => h) (.inl ⟨rfl, fun V hS => ?y0⟩) HS.out ?_
        case y0 =>
          clear hS
          go_simp
        go_simp
        refine wpAnyH_take (i := 25) (v := .int .i64 y) rfl (by kernel_rfl) (by kernel_rfl) (by kernel_rfl) (fun _ _ _ h => h) (.inl ⟨rfl, fun V hS => ?y0⟩) HS.out ?_
        case y0 =>
          have z := hS.y hk0
          clear hS
          go_simp
        go_simp
        refine wpAnyH_take (i := 26) (v := .pointer (some ⟨wo.heap.size, 0, none⟩)) rfl (by kernel_rfl) (by kernel_rfl) (by kernel_rfl) (fun _ _ _ h => h) (.inl ⟨rfl, fun V hS => ?y0⟩) HS.out ?_
        case y0 =>
          clear hS
          go_simp
        go_simp
        refine wpAnyH_take (i := 27) (v := .int .i64 (x 0)) rfl (by kernel_rfl) (by kernel_rfl) (by kernel_rfl) (fun _ _ _ h => h) (.inl ⟨rfl, fun V hS => ?y0⟩) HS.out ?_
        case y0 =>
          have z := hS.c.cell 0
          clear hS
          go_simp
        go_simp
        refine wpAnyH_take (i := 28) (v := .bool true) rfl (by kernel_rfl) (by kernel_rfl) (by kernel_rfl) (fun _ _ _ h => h) (.inl ⟨rfl, fun V hS => ?y0⟩) HS.out ?_
        case y0 =>
          clear hS
          go_simp
        go_simp
        refine wpAnyH_take (i := 29) (v := .bool true) rfl (by kernel_rfl) (by kernel_rfl) (by kernel_rfl) (fun _ _ _ h => h) (.inl ⟨rfl, fun V hS => ?y0⟩) HS.out ?_
        case y0 =>
          clear hS
          go_simp
        go_simp
        refine wpAnyH_take (i := 30) (v := .bool true) rfl (by kernel_rfl) (by kernel_rfl) (by kernel_rfl) (fun _ _ _ h => h) (.inl ⟨rfl, fun V hS => ?y0⟩) HS.out ?_
        case y0 =>
          clear hS
          go_simp
        go_simp
        refine wpAnyH_done (by kernel_rfl) ?_ _
        go_wp2
        go_ret
        exact ⟨by rw [Ho.out]; rfl, BW.out⟩
      replace HF : Hid (refB p.nc ts p.cs k = (!(x 1 == 3) || (!decide (x 4 ∈ ts) && (List.range k).all fun j => !((p.cs.getD j zCn).1 4 == x 4)))) := by
        show _ = _
        rw [HF.out]
        have : (k == 0 || decide (y < x 0)) = true := by
          by_cases h0 : k = 0
          · simp [h0]
          · have : y < x 0 := by omega
            simp [this]
        rw [this]
        rfl
      by_cases h0 : k = 0
      · have hk0 : ¬ (0 : Int) < (k : Int) := by omega
        have H0 := Lib.hid h0
        clear h0
        refine wpAnyH_take (i := 2) (v := .bool false) rfl (by kernel_rfl) (by kernel_rfl) (by kernel_rfl) (fun _ _ _ h => h) (.inl ⟨rfl, fun V hS => ?y0⟩) HS.out ?_
        case y0 =>
          clear hS
          go_simp
        go_simp
        refine wpAnyH_take (i := 3) (v := .bool false) rfl (by kernel_rfl) (by kernel_rfl) (by kernel_rfl) (fun _ _ _ h => h) (.inl ⟨rfl, fun V hS => ?y0⟩) HS.out ?_
        case y0 =>
          clear hS
          go_simp
        go_simp
        refine wpAnyH_take (i := 4) (v := .pointer (some ⟨wo.heap.size, 1, none⟩)) rfl (by kernel_rfl) (by kernel_rfl) (by kernel_rfl) (fun _ _ _ h => h) (.inl ⟨rfl, fun V hS => ?y0⟩) HS.out ?_
        case y0 =>
          clear hS
          go_simp
        go_simp
        refine wpAnyH_take (i := 5) (v := .int .i64 (x 1)) rfl (by kernel_rfl) (by kernel_rfl) (by kernel_rfl) (fun _ _ _ h => h) (.inl ⟨rfl, fun V hS => ?y0⟩) HS.out ?_
        case y0 =>
          have z := hS.c.cell 1
          clear hS
          go_simp
        go_simp
        refine wpAnyH_take (i := 6) (v := .bool false) rfl (by kernel_rfl) (by kernel_rfl) (by kernel_rfl) (fun _ _ _ h => h) (.inl ⟨rfl, fun V hS => ?y0⟩) HS.out ?_
        case y0 =>
          clear hS
          go_simp
        go_simp
        refine wpAnyH_take (i := 7) (v := .bool false) rfl (by kernel_rfl) (by kernel_rfl) (by kernel_rfl) (fun _ _ _ h => h) (.inl ⟨rfl, fun V hS => ?y0⟩) HS.out ?_
        case y0 =>
          clear hS
          go_simp
        go_simp
        refine wpAnyH_take (i := 8) (v := .bool false) rfl (by kernel_rfl) (by kernel_rfl) (by kernel_rfl) (fun _ _ _ h => h) (.inl ⟨rfl, fun V hS => ?y0⟩) HS.out ?_
        case y0 =>
          clear hS
          go_simp
        go_simp
        refine wpAnyH_take (i := 9) (v := .pointer (some ⟨wo.heap.size, 0, none⟩)) rfl (by kernel_rfl) (by kernel_rfl) (by kernel_rfl) (fun _ _ _ h => h) (.inl ⟨rfl, fun V hS => ?y0⟩) HS.out ?_
        case y0 =>
          clear hS
          go_simp
        go_simp
        refine wpAnyH_take (i := 10) (v := .int .i64 (x 0)) rfl (by kernel_rfl) (by kernel_rfl) (by kernel_rfl) (fun _ _ _ h => h) (.inl ⟨rfl, fun V hS => ?y0⟩) HS.out ?_
        case y0 =>
          have z := hS.c.cell 0
          clear hS
          go_simp
        go_simp
        refine wpAnyH_take (i := 11) (v := .pointer (some ⟨w.heap.size, 16, none⟩)) rfl (by kernel_rfl) (by kernel_rfl) (by kernel_rfl) (fun _ _ _ h => h) (.inl ⟨rfl, fun V hS => ?y0⟩) HS.out ?_
        case y0 =>
          clear hS
          go_simp
        go_simp
        refine wpAnyH_take (i := 12) (v := .int .i64 p.nc) rfl (by kernel_rfl) (by kernel_rfl) (by kernel_rfl) (fun _ _ _ h => h) (.inl ⟨rfl, fun V hS => ?y0⟩) HS.out ?_
        case y0 =>
          have z := hS.p.cell 16
          clear hS
          go_simp
        go_simp
        refine wpAnyH_take (i := 13) (v := .bool false) rfl (by kernel_rfl) (by kernel_rfl) (by kernel_rfl) (fun _ _ _ h => h) (.inl ⟨rfl, fun V hS => ?y0⟩) HS.out ?_
        case y0 =>
          clear hS
          go_simp
        go_simp
        refine wpAnyH_take (i := 14) (v := .bool false) rfl (by kernel_rfl) (by kernel_rfl) (by kernel_rfl) (fun _ _ _ h => h) (.inl ⟨rfl, fun V hS => ?y0⟩) HS.out ?_
        case y0 =>
          clear hS
          go_simp
        go_simp
        refine wpAnyH_take (i := 15) (v := .bool false) rfl (by kernel_rfl) (by kernel_rfl) (by kernel_rfl) (fun _ _ _ h => h) (.inl ⟨rfl, fun V hS => ?y0⟩) HS.out ?_
        case y0 =>
          clear hS
          go_simp
        go_simp
        refine wpAnyH_take (i := 16) (v := .int .i64 (k : Int)) rfl (by kernel_rfl) (by kernel_rfl) (by kernel_rfl) (fun _ _ _ h => h) (.inl ⟨rfl, fun V hS => ?y0⟩) HS.out ?_
        case y0 =>
          clear hS
          go_simp
        go_simp
        refine wpAnyH_take (i := 17) (v := .bool false) rfl (by kernel_rfl) (by kernel_rfl) (by kernel_rfl) (fun _ _ _ h => h) (.inl ⟨rfl, fun V hS => ?y0⟩) HS.out ?_
        case y0 =>
          have hz := H0.out
          clear hS
          go_simp
        go_simp
        refine wpAnyH_take (i := 18) (v := .bool false) rfl (by kernel_rfl) (by kernel_rfl) (by kernel_rfl) (fun _ _ _ h => h) (.inl ⟨rfl, fun V hS => ?y0⟩) HS.out ?_
        case y0 =>
          clear hS
          go_simp
        go_simp
        refine wpAnyH_take (i := 19) (v := undef) rfl (by kernel_rfl) (by kernel_rfl) (by kernel_rfl) (fun _ _ _ h => h) (.inr ⟨rfl, rfl⟩) HS.out ?_
        go_simp
        refine wpAnyH_take (i := 20) (v := undef) rfl (by kernel_rfl) (by kernel_rfl) (by kernel_rfl) (fun _ _ _ h => h) (.inr ⟨rfl, rfl⟩) HS.out ?_
        go_simp
        refine wpAnyH_take (i := 21) (v := undef) rfl (by kernel_rfl) (by kernel_rfl) (by kernel_rfl) (fun _ _ _ h => h) (.inr ⟨rfl, rfl⟩) HS.out ?_
        go_simp
        refine wpAnyH_take (i := 22) (v := undef) rfl (by kernel_rfl) (by kernel_rfl) (by kernel_rfl) (fun _ _ _ h => h) (.inr ⟨rfl, rfl⟩) HS.out ?_
        go_simp
        refine wpAnyH_take (i := 23) (v := undef) rfl (by kernel_rfl) (by kernel_rfl) (by kernel_rfl) (fun _ _ _ h => h) (.inr ⟨rfl, rfl⟩) HS.out ?_
        go_simp
        refine wpAnyH_take (i := 24) (v := undef) rfl (by kernel_rfl) (by kernel_rfl) (by kernel_rfl) (fun _ _ _ h => h) (.inr ⟨rfl, rfl⟩) HS.out ?_
        go_simp
        refine wpAnyH_take (i := 25) (v := undef) rfl (by kernel_rfl) (by kernel_rfl) (by kernel_rfl) (fun _ _ _ h => h) (.inr ⟨rfl, rfl⟩) HS.out ?_
        go_simp
        refine wpAnyH_take (i := 26) (v := undef) rfl (by kernel_rfl) (by kernel_rfl) (by kernel_rfl) (fun _ _ _ h => h) (.inr ⟨rfl, rfl⟩) HS.out ?_
        go_simp
        refine wpAnyH_take (i := 27) (v := undef) rfl (by kernel_rfl) (by kernel_rfl) (by kernel_rfl) (fun _ _ _ h => h) (.inr ⟨rfl, rfl⟩) HS.out ?_
        go_simp
        refine wpAnyH_take (i := 28) (v := undef) rfl (by kernel_rfl) (by kernel_rfl) (by kernel_rfl) (fun _ _ _ h => h) (.inr ⟨rfl, rfl⟩) HS.out ?_
        go_simp
        refine wpAnyH_take (i := 29) (v := .bool false) rfl (by kernel_rfl) (by kernel_rfl) (by kernel_rfl) (fun _ _ _ h => h) (.inl ⟨rfl, fun V hS => ?y0⟩) HS.out ?_
        case y0 =>
          clear hS
          go_simp
        go_simp
        refine wpAnyH_take (i := 30) (v := .bool false) rfl (by kernel_rfl) (by kernel_rfl) (by kernel_rfl) (fun _ _ _ h => h) (.inl ⟨rfl, fun V hS => ?y0⟩) HS.out ?_
        case y0 =>
          clear hS
          go_simp
        go_simp
        refine wpAnyH_done (by kernel_rfl) ?_ _
        have d1 : w6.cell? ⟨wo.heap.size, 1, none⟩ = some (.int .i64 (x 1)) := Q5.out.cell 1
        have d4 : w6.cell? ⟨wo.heap.size, 4, none⟩ = some (.int .i64 (x 4)) := Q5.out.cell 4
        by_cases h3 : x 1 = 3
        · have h3' : (x 1 == 3) = true := by simpa using h3
          clear h3
          replace HF : Hid (refB p.nc ts p.cs k = (!decide (x 4 ∈ ts) && (List.range k).all fun j => !((p.cs.getD j zCn).1 4 == x 4))) := by show _ = _; rw [HF.out, h3']; rfl
          go_wp2_with fail
          refine (Que.has_any G _ cg ts (x 4) w6 rfl (by omega) HVs.out.ints).mono ?_
          rintro e _ ⟨rfl, rfl⟩
          clear d1
          cases hh : ts.contains (x 4)
          · have hm : x 4 ∉ ts := by
              intro hm
              rw [List.contains_iff_mem.2 hm] at hh
              cases hh
            replace HF : Hid (refB p.nc ts p.cs k = (List.range k).all fun j => !((p.cs.getD j zCn).1 4 == x 4)) := by show _ = _; rw [HF.out, decide_eq_false hm]; rfl
            clear hh hm
            have z5 := Q5.out.lt
            have HD4 := Lib.hid d4
            clear d4
            go_wp2
            go_loopw [6] (fun i wz => ∃ j : Nat, j ≤ k ∧ i = .int .i64 j ∧ (∀ i, i < j → (p.cs.getD i zCn).1 4 ≠ x 4) ∧ Below w6.heap.size w6 wz) (fun i _ => k - (intOf i).toNat)
            case atStart => exact ⟨0, Nat.zero_le _, rfl, fun i hi => absurd hi (by omega), Below.refl _ _⟩
            case round =>
              obtain ⟨j, hj, rfl, hap, hz⟩ := hrel
              have Hap := Lib.hid hap
              have HZ := Lib.hid hz
              clear hap
              by_cases hjl : j < k
              · have z18 : wr.cell? ⟨w.heap.size, 18, none⟩ = some (.slice (some ⟨g, 0, none⟩) p.cs.length a.cc) := (KB.out.below hz).cell 18
                have z4 : wr.cell? ⟨wo.heap.size, 4, none⟩ = some (.int .i64 (x 4)) := (hz.cell (p := ⟨wo.heap.size, 4, none⟩) z5).trans HD4.out
                have ej := (HC.out j (by omega)).1.six.2.2.2.2.1
                have e4 : wr.cell? ⟨g, j * 6 + 4, none⟩ = some (.int .i64 ((p.cs.getD j zCn).1 4)) := (hz.cell (p := ⟨g, j * 6 + 4, none⟩) (show g < w6.heap.size by omega)).trans ((Hb56.out.cell (p := ⟨g, j * 6 + 4, none⟩) hgl).trans ej)
                obtain ⟨t, ht⟩ : ∃ t, (p.cs.getD j zCn).1 4 = t := ⟨_, rfl⟩
                rw [ht] at e4
                have Ht := Lib.hid ht
                have hj0 : (0 : Int) ≤ (j : Int) := by omega
                have hj1 : (j : Int) < (p.cs.length : Int) := by omega
                clear ht hz ej
                by_cases het : t = x 4
                · have hetb : (t == x 4) = true := by simpa using het
                  have Ho := Lib.hid (refS_no hlt (by
                    rw [Hts.out, HF.out, List.all_eq_false]
                    exact ⟨j, List.mem_range.2 hjl, by rw [Ht.out, het]; simp⟩))
                  clear het
                  go_wp2_with fail
                  go_quiet (fail)
                  go_wp2
                  go_ret
                  exact ⟨by rw [Ho.out]; rfl, Hp.below_drewN (bel_trans BW.out HZ.out) _⟩
                · have hetb : (t == x 4) = false := by simpa using het
                  have Hne := Lib.hid het
                  clear het
                  go_wp2_with fail
                  go_quiet (fail)
                  go_wp2
                  go_roundw
                  case rel =>
                    refine ⟨j + 1, by omega, by go_num, fun i hi => ?_, Hp.below_drewN HZ.out _⟩
                    by_cases e : i = j
                    · subst e; rw [Ht.out]; exact Hne.out
                    · exact Hap.out i (by omega)
                  case measure => simp [intOf]; omega
              · obtain rfl : j = k := by omega
                have Hb : Hid (refB p.nc ts p.cs j = true) := by
                  show _ = _
                  rw [HF.out, List.all_eq_true]
                  intro i hi
                  have := Hap.out i (List.mem_range.1 hi)
                  simpa using this
                go_wp2
                go_roundw
                case rel =>
                  refine ⟨j + 1, by omega, by go_num, fun i hi => ?_, bel_trans HRr.out HZ.out⟩
                  by_cases e : i = j
                  · subst e; exact Hb.out
                  · exact Hall.out i (by omega)
                case measure => simp [intOf]; omega
          · have hm : x 4 ∈ ts := List.contains_iff_mem.1 hh
            have Ho := Lib.hid (refS_no hlt (by rw [Hts.out, HF.out, decide_eq_true hm]; rfl))
            clear hh hm
            go_wp2
            go_ret
            exact ⟨by rw [Ho.out]; rfl, BW.out⟩
        · have h3' : (x 1 == 3) = false := by simpa using h3
          clear h3
          have Hb : Hid (refB p.nc ts p.cs k = true) := by show _ = _; rw [HF.out, h3']; rfl
          clear d4
          go_wp2
          go_roundw
          case rel =>
            refine ⟨k + 1, by omega, by go_num, fun i hi => ?_, HRr.out⟩
            by_cases e : i = k
            · subst e; exact Hb.out
            · exact Hall.out i (by omega)
          case measure => simp [intOf]; omega
      have hk0 : 0 < k := by omega
      have hly : y < x 0 := by omega
      have hly' : ¬ x 0 ≤ y := by omega
      have hwk : IntKind.i64.wrap ((k : Int) - 1) = ((k - 1 : Nat) : Int) := by rw [IntWalk.i64_in _ (by omega)]; omega
      have hbk : ¬ p.cs.length ≤ k - 1 := by omega
      clear h0
      refine wpAnyH_take (i := 2) (v := .bool false) rfl (by kernel_rfl) (by kernel_rfl) (by kernel_rfl) (fun _ _ _ h => h) (.inl ⟨rfl, fun V hS => ?y0⟩) HS.out ?_
      case y0 =>
        clear hS
        go_simp
      go_simp
      refine wpAnyH_take (i := 3) (v := .bool false) rfl (by kernel_rfl) (by kernel_rfl) (by kernel_rfl) (fun _ _ _ h => h) (.inl ⟨rfl, fun V hS => ?y0⟩) HS.out ?_
      case y0 =>
        clear hS
        go_simp
      go_simp
      refine wpAnyH_take (i := 4) (v := .pointer (some ⟨wo.heap.size, 1, none⟩)) rfl (by kernel_rfl) (by kernel_rfl) (by kernel_rfl) (fun _ _ _ h => h) (.inl ⟨rfl, fun V hS => ?y0⟩) HS.out ?_
      case y0 =>
        clear hS
        go_simp
      go_simp
      refine wpAnyH_take (i := 5) (v := .int .i64 (x 1)) rfl (by kernel_rfl) (by kernel_rfl) (by kernel_rfl) (fun _ _ _ h => h) (.inl ⟨rfl, fun V hS => ?y0⟩) HS.out ?_
      case y0 =>
        have z := hS.c.cell 1
        clear hS
        go_simp
      go_simp
      refine wpAnyH_take (i := 6) (v := .bool false) rfl (by kernel_rfl) (by kernel_rfl) (by kernel_rfl) (fun _ _ _ h => h) (.inl ⟨rfl, fun V hS => ?y0⟩) HS.out ?_
      case y0 =>
        clear hS
        go_simp
      go_simp
      refine wpAnyH_take (i := 7) (v := .bool false) rfl (by kernel_rfl) (by kernel_rfl) (by kernel_rfl) (fun _ _ _ h => h) (.inl ⟨rfl, fun V hS => ?y0⟩) HS.out ?_
      case y0 =>
        clear hS
        go_simp
      go_simp
      refine wpAnyH_take (i := 8) (v := .bool false) rfl (by kernel_rfl) (by kernel_rfl) (by kernel_rfl) (fun _ _ _ h => h) (.inl ⟨rfl, fun V hS => ?y0⟩) HS.out ?_
      case y0 =>
        clear hS
        go_simp
      go_simp
      refine wpAnyH_take (i := 9) (v := .pointer (some ⟨wo.heap.size, 0, none⟩)) rfl (by kernel_rfl) (by kernel_rfl) (by kernel_rfl) (fun _ _ _ h => h) (.inl ⟨rfl, fun V hS => ?y0⟩) HS.out ?_
      case y0 =>
        clear hS
        go_simp
      go_simp
      refine wpAnyH_take (i := 10) (v := .int .i64 (x 0)) rfl (by kernel_rfl) (by kernel_rfl) (by kernel_rfl) (fun _ _ _ h => h) (.inl ⟨rfl, fun V hS => ?y0⟩) HS.out ?_
      case y0 =>
        have z := hS.c.cell 0
        clear hS
        go_simp
      go_simp
      refine wpAnyH_take (i := 11) (v := .pointer (some ⟨w.heap.size, 16, none⟩)) rfl (by kernel_rfl) (by kernel_rfl) (by kernel_rfl) (fun _ _ _ h => h) (.inl ⟨rfl, fun V hS => ?y0⟩) HS.out ?_
      case y0 =>
        clear hS
        go_simp
      go_simp
      refine wpAnyH_take (i := 12) (v := .int .i64 p.nc) rfl (by kernel_rfl) (by kernel_rfl) (by kernel_rfl) (fun _ _ _ h => h) (.inl ⟨rfl, fun V hS => ?y0⟩) HS.out ?_
      case y0 =>
        have z := hS.p.cell 16
        clear hS
        go_simp
      go_simp
      refine wpAnyH_take (i := 13) (v := .bool false) rfl (by kernel_rfl) (by kernel_rfl) (by kernel_rfl) (fun _ _ _ h => h) (.inl ⟨rfl, fun V hS => ?y0⟩) HS.out ?_
      case y0 =>
        clear hS
        go_simp
      go_simp
      refine wpAnyH_take (i := 14) (v := .bool false) rfl (by kernel_rfl) (by kernel_rfl) (by kernel_rfl) (fun _ _ _ h => h) (.inl ⟨rfl, fun V hS => ?y0⟩) HS.out ?_
      case y0 =>
        clear hS
        go_simp
      go_simp
      refine wpAnyH_take (i := 15) (v := .bool false) rfl (by kernel_rfl) (by kernel_rfl) (by kernel_rfl) (fun _ _ _ h => h) (.inl ⟨rfl, fun V hS => ?y0⟩) HS.out ?_
      case y0 =>
        clear hS
        go_simp
      go_simp
      refine wpAnyH_take (i := 16) (v := .int .i64 (k : Int)) rfl (by kernel_rfl) (by kernel_rfl) (by kernel_rfl) (fun _ _ _ h => h) (.inl ⟨rfl, fun V hS => ?y0⟩) HS.out ?_
      case y0 =>
        clear hS
        go_simp
      go_simp
      refine wpAnyH_take (i := 17) (v := .bool true) rfl (by kernel_rfl) (by kernel_rfl) (by kernel_rfl) (fun _ _ _ h => h) (.inl ⟨rfl, fun V hS => ?y0⟩) HS.out ?_
      case y0 =>
        clear hS
        go_simp
      go_simp
      refine wpAnyH_take (i := 18) (v := .bool true) rfl (by kernel_rfl) (by kernel_rfl) (by kernel_rfl) (fun _ _ _ h => h) (.inl ⟨rfl, fun V hS => ?y0⟩) HS.out ?_
      case y0 =>
        clear hS
        go_simp
      go_simp
      refine wpAnyH_take (i := 19) (v := .pointer (some ⟨w.heap.size, 18, none⟩)) rfl (by kernel_rfl) (by kernel_rfl) (by kernel_rfl) (fun _ _ _ h => h) (.inl ⟨rfl, fun V hS => ?y0⟩) HS.out ?_
      case y0 =>
        clear hS
        go_simp
      go_simp
      refine wpAnyH_take (i := 20) (v := .slice (some ⟨g, 0, none⟩) p.cs.length a.cc) rfl (by kernel_rfl) (by kernel_rfl) (by kernel_rfl) (fun _ _ _ h => h) (.inl ⟨rfl, fun V hS => ?y0⟩) HS.out ?_
      case y0 =>
        have z := hS.p.cell 18
        clear hS
        go_simp
      go_simp
      refine wpAnyH_take (i := 21) (v := .int .i64 (k : Int)) rfl (by kernel_rfl) (by kernel_rfl) (by kernel_rfl) (fun _ _ _ h => h) (.inl ⟨rfl, fun V hS => ?y0⟩) HS.out ?_
      case y0 =>
        clear hS
        go_simp
      go_simp
      refine wpAnyH_take (i := 22) (v := .int .i64 ((k - 1 : Nat) : Int)) rfl (by kernel_rfl) (by kernel_rfl) (by kernel_rfl) (fun _ _ _ h => h) (.inl ⟨rfl, fun V hS => ?y0⟩) HS.out ?_
      case y0 =>
        clear hS
        go_simp
      go_simp
      refine wpAnyH_take (i := 23) (v := .pointer (some ⟨g, (k - 1) * 6, none⟩)) rfl (by kernel_rfl) (by kernel_rfl) (by kernel_rfl) (fun _ _ _ h => h) (.inl ⟨rfl, fun V hS => ?y0⟩) HS.out ?_
      case y0 =>
        clear hS
        go_simp
      go_simp
      refine wpAnyH_take (i := 24) (v := .pointer (some ⟨g, (k - 1) * 6, none⟩)) rfl (by kernel_rfl) (by kernel_rfl) (by kernel_rfl) (fun _ _ _ h => h) (.inl ⟨rfl, fun V hS => ?y0⟩) HS.out ?_
      case y0 =>
        clear hS
        go_simp
      go_simp
      refine wpAnyH_take (i := 25) (v := .int .i64 y) rfl (by kernel_rfl) (by kernel_rfl) (by kernel_rfl) (fun _ _ _ h => h) (.inl ⟨rfl, fun V hS => ?y0⟩) HS.out ?_
      case y0 =>
        have z := hS.y hk0
        clear hS
        go_simp
      go_simp
      refine wpAnyH_take (i := 26) (v := .pointer (some ⟨wo.heap.size, 0, none⟩)) rfl (by kernel_rfl) (by kernel_rfl) (by kernel_rfl) (fun _ _ _ h => h) (.inl ⟨rfl, fun V hS => ?y0⟩) HS.out ?_
      case y0 =>
        clear hS
        go_simp
      go_simp
      refine wpAnyH_take (i := 27) (v := .int .i64 (x 0)) rfl (by kernel_rfl) (by kernel_rfl) (by kernel_rfl) (fun _ _ _ h => h) (.inl ⟨rfl, fun V hS => ?y0⟩) HS.out ?_
      case y0 =>
        have z := hS.c.cell 0
        clear hS
        go_simp
      go_simp
      refine wpAnyH_take (i := 28) (v := .bool false) rfl (by kernel_rfl) (by kernel_rfl) (by kernel_rfl) (fun _ _ _ h => h) (.inl ⟨rfl, fun V hS => ?y0⟩) HS.out ?_
      case y0 =>
        clear hS
        go_simp
      go_simp
      refine wpAnyH_take (i := 29) (v := .bool false) rfl (by kernel_rfl) (by kernel_rfl) (by kernel_rfl) (fun _ _ _ h => h) (.inl ⟨rfl, fun V hS => ?y0⟩) HS.out ?_
      case y0 =>
        clear hS
        go_simp
      go_simp
      refine wpAnyH_take (i := 30) (v := .bool false) rfl (by kernel_rfl) (by kernel_rfl) (by kernel_rfl) (fun _ _ _ h => h) (.inl ⟨rfl, fun V hS => ?y0⟩) HS.out ?_
      case y0 =>
        clear hS
        go_simp
      go_simp
      refine wpAnyH_done (by kernel_rfl) ?_ _
      have d1 : w6.cell? ⟨wo.heap.size, 1, none⟩ = some (.int .i64 (x 1)) := Q5.out.cell 1
      have d4 : w6.cell? ⟨wo.heap.size, 4, none⟩ = some (.int .i64 (x 4)) := Q5.out.cell 4
      by_cases h3 : x 1 = 3
      · have h3' : (x 1 == 3) = true := by simpa using h3
        clear h3
        replace HF : Hid (refB p.nc ts p.cs k = (!decide (x 4 ∈ ts) && (List.range k).all fun j => !((p.cs.getD j zCn).1 4 == x 4))) := by show _ = _; rw [HF.out, h3']; rfl
        go_wp2_with fail
        refine (Que.has_any G _ cg ts (x 4) w6 rfl (by omega) HVs.out.ints).mono ?_
        rintro e _ ⟨rfl, rfl⟩
        clear d1
        cases hh : ts.contains (x 4)
        · have hm : x 4 ∉ ts := by
            intro hm
            rw [List.contains_iff_mem.2 hm] at hh
            cases hh
          replace HF : Hid (refB p.nc ts p.cs k = (List.range k).all fun j => !((p.cs.getD j zCn).1 4 == x 4)) := by show _ = _; rw [HF.out, decide_eq_false hm]; rfl
          clear hh hm
          have z5 := Q5.out.lt
          have HD4 := Lib.hid d4
          clear d4
          go_wp2
          go_loopw [6] (fun i wz => ∃ j : Nat, j ≤ k ∧ i = .int .i64 j ∧ (∀ i, i < j → (p.cs.getD i zCn).1 4 ≠ x 4) ∧ Below w6.heap.size w6 wz) (fun i _ => k - (intOf i).toNat)
          case atStart => exact ⟨0, Nat.zero_le _, rfl, fun i hi => absurd hi (by omega), Below.refl _ _⟩
          case round =>
            obtain ⟨j, hj, rfl, hap, hz⟩ := hrel
            have Hap := Lib.hid hap
            have HZ := Lib.hid hz
            clear hap
            by_cases hjl : j < k
            · have z18 : wr.cell? ⟨w.heap.size, 18, none⟩ = some (.slice (some ⟨g, 0, none⟩) p.cs.length a.cc) := (KB.out.below hz).cell 18
              have z4 : wr.cell? ⟨wo.heap.size, 4, none⟩ = some (.int .i64 (x 4)) := (hz.cell (p := ⟨wo.heap.size, 4, none⟩) z5).trans HD4.out
              have ej := (HC.out j (by omega)).1.six.2.2.2.2.1
              have e4 : wr.cell? ⟨g, j * 6 + 4, none⟩ = some (.int .i64 ((p.cs.getD j zCn).1 4)) := (hz.cell (p := ⟨g, j * 6 + 4, none⟩) (show g < w6.heap.size by omega)).trans ((Hb56.out.cell (p := ⟨g, j * 6 + 4, none⟩) hgl).trans ej)
              obtain ⟨t, ht⟩ : ∃ t, (p.cs.getD j zCn).1 4 = t := ⟨_, rfl⟩
              rw [ht] at e4
              have Ht := Lib.hid ht
              have hj0 : (0 : Int) ≤ (j : Int) := by omega
              have hj1 : (j : Int) < (p.cs.length : Int) := by omega
              clear ht hz ej
              by_cases het : t = x 4
              · have hetb : (t == x 4) = true := by simpa using het
                have Ho := Lib.hid (refS_no hlt (by
                  rw [Hts.out, HF.out, List.all_eq_false]
                  exact ⟨j, List.mem_range.2 hjl, by rw [Ht.out, het]; simp⟩))
                clear het
                go_wp2_with fail
                go_quiet (fail)
                go_wp2
                go_ret
                exact ⟨by rw [Ho.out]; rfl, Hp.below_drewN (bel_trans BW.out HZ.out) _⟩
              · have hetb : (t == x 4) = false := by simpa using het
                have Hne := Lib.hid het
                clear het
                go_wp2_with fail
                go_quiet (fail)
                go_wp2
                go_roundw
                case rel =>
                  refine ⟨j + 1, by omega, by go_num, fun i hi => ?_, Hp.below_drewN HZ.out _⟩
                  by_cases e : i = j
                  · subst e; rw [Ht.out]; exact Hne.out
                  · exact Hap.out i (by omega)
                case measure => simp [intOf]; omega
            · obtain rfl : j = k := by omega
              have Hb : Hid (refB p.nc ts p.cs j = true) := by
                show _ = _
                rw [HF.out, List.all_eq_true]
                intro i hi
                have := Hap.out i (List.mem_range.1 hi)
                simpa using this
              go_wp2
              go_roundw
              case rel =>
                refine ⟨j + 1, by omega, by go_num, fun i hi => ?_, bel_trans HRr.out HZ.out⟩
                by_cases e : i = j
                · subst e; exact Hb.out
                · exact Hall.out i (by omega)
              case measure => simp [intOf]; omega
        · have hm : x 4 ∈ ts := List.contains_iff_mem.1 hh
          have Ho := Lib.hid (refS_no hlt (by rw [Hts.out, HF.out, decide_eq_true hm]; rfl))
          clear hh hm
          go_wp2
          go_ret
          exact ⟨by rw [Ho.out]; rfl, BW.out⟩
      · have h3' : (x 1 == 3) = false := by simpa using h3
        clear h3
        have Hb : Hid (refB p.nc ts p.cs k = true) := by show _ = _; rw [HF.out, h3']; rfl
        clear d4
        go_wp2
        go_roundw
        case rel =>
          refine ⟨k + 1, by omega, by go_num, fun i hi => ?_, HRr.out⟩
          by_cases e : i = k
          · subst e; exact Hb.out
          · exact Hall.out i (by omega)
        case measure => simp [intOf]; omega
    · obtain rfl : k = p.cs.length := by omega
      have hz0 : Hid (refS p = ((ts.drop 0).all fun t => decide (t < p.nt))) := Lib.hid (Hy.out Hall.out)
      clear Hy Hall
      have zr1 := HVr
      go_wp2
      go_loopw [7] (fun i wz => ∃ j : Nat, j ≤ ts.length ∧ i = .int .i64 j ∧ refS p = ((ts.drop j).all fun t => decide (t < p.nt)) ∧ Below wo.heap.size wo wz) (fun i _ => ts.length - (intOf i).toNat)
      case atStart => exact ⟨0, Nat.zero_le _, rfl, hz0.out, Below.refl _ _⟩
      case round =>
        obtain ⟨j, hj, rfl, he, hz⟩ := hrel
        have HZ := Lib.hid hz
        by_cases hjl : j < ts.length
        · have z17 : wr.cell? ⟨w.heap.size, 17, none⟩ = some (.int .i64 p.nt) := (KB.out.below hz).cell 17
          obtain ⟨gg, hgg, _, hgl2, hri⟩ := (HVr.out.below hz zr0) (by omega)
          have e0 := (hri j hjl).1
          obtain ⟨t, htt⟩ : ∃ t, ts.getD j 0 = t := ⟨_, rfl⟩
          rw [htt] at e0
          have He := Lib.hid (he.trans (all_drop (fun t => decide (t < p.nt)) ts j hjl htt))
          have hj0 : (0 : Int) ≤ (j : Int) := by omega
          have hj1 : (j : Int) < (ts.length : Int) := by omega
          clear he htt hri hz
          rw [hgg]
          by_cases hnt : p.nt ≤ t
          · have Ho : Hid (refS p = false) := by show _ = _; rw [He.out, decide_eq_false (p := t < p.nt) (by omega)]; rfl
            clear He
            go_wp2_with fail
            go_quiet (fail)
            go_wp2
            go_ret
            exact ⟨by rw [Ho.out]; rfl, Hp.below_drewN (bel_trans BW.out HZ.out) _⟩
          · have Ho : Hid (refS p = ((ts.drop (j + 1)).all fun t => decide (t < p.nt))) := by show _ = _; rw [He.out, decide_eq_true (p := t < p.nt) (by omega)]; rfl
            clear He
            go_wp2_with fail
            go_quiet (fail)
            go_wp2
            go_roundw
            case rel => exact ⟨j + 1, by omega, by go_num, Ho.out, Hp.below_drewN HZ.out _⟩
            case measure => simp [intOf]; omega
        · obtain rfl : j = ts.length := by omega
          have Ho : Hid (refS p = true) := by show _ = _; rw [he, List.drop_length]; rfl
          clear he
          go_wp2
          go_ret
          exact ⟨by rw [Ho.out]; rfl, bel_trans BW.out HZ.out⟩
end Go.Proofs.Ytehdbdolhkflcaa.Po
