/- The draw of a list of events. -/
import Derived.Test.YtmmoelijpemlfaaDcf3
import Derived.Test.YtmmoelijpemlfaaEv1
import Derived.Test.YtmmoelijpemlfaaBc5
import Derived.Deep.DeepCutAuto
namespace Go.Proofs.Ytmmoelijpemlfaa.Draw
open Go.RowKit Go.Deep Base Rw Bk

def cellsV : List (Int × Int) → List Value
  | [] => []
  | e :: r => [.int .i64 e.1, .int .i64 e.2] ++ cellsV r
theorem cellsV_append (a b : List (Int × Int)) : cellsV (a ++ b) = cellsV a ++ cellsV b := by
  induction a with
  | nil => rfl
  | cons s r ih => simp only [List.cons_append, cellsV, ih, List.append_assoc]
theorem cellsV_at : ∀ (es : List (Int × Int)) (i : Nat), i < es.length → (cellsV es)[i * 2]? = some (.int .i64 (es.getD i (0, 0)).1) ∧ (cellsV es)[i * 2 + 1]? = some (.int .i64 (es.getD i (0, 0)).2)
  | [], i, h => by simp at h
  | s :: r, 0, _ => by simp [cellsV]
  | s :: r, i + 1, h => by
    have := cellsV_at r i (by simp at h; omega)
    simp only [cellsV, List.getD_cons_succ]
    rw [show (i + 1) * 2 = i * 2 + 2 from by omega, show i * 2 + 2 + 1 = i * 2 + 1 + 2 from by omega]
    simpa using this

theorem evI_owns {w : World} {B n cap : Nat} {A : Option Addr} {es : List (Int × Int)} (h : w.ownsRow B 87 2 (.slice A n cap) n (cellsV es)) (hn : es.length = n) : EvI w A es := by
  intro hp
  rcases h.2 with ⟨_, h0⟩ | ⟨g, cap', cur, hv, hb, hg, _⟩
  · omega
  · injection hv with hA _ _
    subst hA
    refine ⟨g, 0, rfl, fun i hi => ?_⟩
    obtain ⟨e1, e2⟩ := cellsV_at es i hi
    rw [Nat.zero_add]
    exact ⟨(h.cellAt (i * 2) (by omega)).trans e1, (h.cellAt (i * 2 + 1) (by omega)).trans e2⟩

theorem owns_low2 {w : World} {B n cap : Nat} {A : Option Addr} {xs : List Value} (h : w.ownsRow B 87 2 (.slice A n cap) n xs) {b off : Nat} (e : A = some ⟨b, off, none⟩) (hn : 0 < n) : B ≤ b := by
  subst e
  rcases h.2 with ⟨_, h0⟩ | ⟨g, cap', cur, hv, hb, hg, _⟩
  · omega
  · injection hv with hA _ _
    injection hA with hA
    injection hA with h1 h2
    omega

/-- While events are drawn: the cursor, the row of the events so far; of what was there only the cursor's block has turned. -/
structure DeSt (w wr : World) (g : Nat) (A : Option Addr) (n cap : Nat) (zs : List Int) (u : Value) (es : List (Int × Int)) : Prop where
  cur : Cur wr g A n cap zs
  own : wr.ownsRow w.heap.size 87 2 u es.length (cellsV es)
  gr : w.grownBy wr (some g)
  lt : g < w.heap.size
theorem DeSt.draw {w wr W' : World} {g : Nat} {A : Option Addr} {n cap : Nat} {zs : List Int} {u : Value} {es : List (Int × Int)} (h : DeSt w wr g A n cap zs u es) (hc : Cur W' g A n cap zs) (hg : wr.grownBy W' (some g)) : DeSt w W' g A n cap zs u es := by
  refine ⟨hc, h.own.kept hg ?_, grown_then h.gr hg, h.lt⟩
  cases e : u.ownBlock with
  | none => exact .inl rfl
  | some j => exact .inr (fun e' => by injection e' with e'; have := (h.own.lt j e).1; have := h.lt; omega)
theorem DeSt.alloc {w wr : World} {g : Nat} {A : Option Addr} {n cap : Nat} {zs : List Int} {u : Value} {es : List (Int × Int)} (h : DeSt w wr g A n cap zs u es) (o : Obj) : DeSt w (wr.alloc o) g A n cap zs u es :=
  ⟨h.cur.alloc _, h.own.alloc _, grown_then h.gr (grown_alloc _ _ _), h.lt⟩
theorem DeSt.push {w wr W' : World} {g : Nat} {A : Option Addr} {n cap : Nat} {zs : List Int} {u v : Value} {es : List (Int × Int)} {o : Obj} {a b : Int} (h : DeSt w wr g A n cap zs u es) (hown : W'.ownsRow w.heap.size 87 2 v (es.length + 1) (cellsV es ++ [.int .i64 a, .int .i64 b])) (hg : (wr.alloc o).grownBy W' u.ownBlock) : DeSt w W' g A n cap zs v (es ++ [(a, b)]) := by
  have hlt := h.lt
  have hs := h.gr.size
  have hob : ∀ j, u.ownBlock = some j → w.heap.size ≤ j := fun j e => (h.own.lt j e).1
  have hb : ∀ k, k < w.heap.size → W'.heap[k]? = wr.heap[k]? := fun k hk => (hg.block k (by simp; omega) (fun e => by have := hob k e.symm; omega)).trans (Below.heap_alloc wr o k (by omega))
  have hsz : wr.heap.size + 1 ≤ W'.heap.size := by have := hg.size; simpa using this
  have hbel : Below (g + 1) wr W' := ⟨hg.os, hg.tape, hg.output, by omega, fun k hk => hb k (by omega)⟩
  refine ⟨h.cur.keep hbel, ?_, ⟨hg.os.trans h.gr.os, hg.tape.trans h.gr.tape, hg.output.trans h.gr.output, by omega, fun k hk hne => (hb k hk).trans (h.gr.block k hk hne)⟩, hlt⟩
  rw [List.length_append, cellsV_append]
  exact hown

/-- The box of the event that is being drawn. -/
def EB (W : World) (b : Nat) (a x : Int) : Prop := W.heap[b]? = some (.cells #[.int .i64 a, .int .i64 x] 87 (0, 0))
theorem EB.cells {W : World} {b : Nat} {a x : Int} (h : EB W b a x) : W.cell? ⟨b, 0, none⟩ = some (.int .i64 a) ∧ W.cell? ⟨b, 1, none⟩ = some (.int .i64 x) ∧ ∀ j, W.frozen? ⟨b, j, none⟩ = false :=
  ⟨cell_of_row _ _ 0 _ _ (0, 0) h, cell_of_row _ _ 1 _ _ (0, 0) h, fun j => by unfold EB at h; simp [World.frozen?, h]⟩
theorem EB.draw {W W' : World} {b g : Nat} {a x : Int} (h : EB W b a x) (hg : W.grownBy W' (some g)) (hne : b ≠ g) : EB W' b a x := (hg.block b (Array.getElem?_eq_some_iff.1 h).1 (fun e => by injection e with e; exact hne e)).trans h
theorem EB.alloc {W : World} {b : Nat} {a x : Int} (h : EB W b a x) (o : Obj) : EB (W.alloc o) b a x := (Below.heap_alloc W o b (Array.getElem?_eq_some_iff.1 h).1).trans h
theorem EB.set0 {W : World} {b : Nat} {a x : Int} (h : EB W b a x) (y : Int) : EB (W.setCell ⟨b, 0, none⟩ (.int .i64 y)) b y x := by
  unfold EB at h ⊢
  simp [World.setCell, Array.getElem?_modify, h]
theorem EB.set1 {W : World} {b : Nat} {a x : Int} (h : EB W b a x) (y : Int) : EB (W.setCell ⟨b, 1, none⟩ (.int .i64 y)) b a y := by
  unfold EB at h ⊢
  simp [World.setCell, Array.getElem?_modify, h]
theorem EB.lt {W : World} {b : Nat} {a x : Int} (h : EB W b a x) : b < W.heap.size := (Array.getElem?_eq_some_iff.1 h).1
theorem DeSt.set {w wr : World} {g : Nat} {A : Option Addr} {n cap : Nat} {zs : List Int} {u : Value} {es : List (Int × Int)} (h : DeSt w wr g A n cap zs u es) {b o : Nat} (hb : w.heap.size ≤ b) (hne : u.ownBlock ≠ some b) (x : Value) : DeSt w (wr.setCell ⟨b, o, none⟩ x) g A n cap zs u es := by
  have hlt := h.lt
  have hs := h.gr.size
  have hbk : ∀ k, k ≠ b → (wr.setCell ⟨b, o, none⟩ x).heap[k]? = wr.heap[k]? := fun k hk => Below.heap_setCell wr ⟨b, o, none⟩ x k hk
  have hsz : (wr.setCell ⟨b, o, none⟩ x).heap.size = wr.heap.size := by simp [World.setCell]
  have hbel : Below (g + 1) wr (wr.setCell ⟨b, o, none⟩ x) := (Below.refl _ _).setCell (p := ⟨b, o, none⟩) (by show g + 1 ≤ b; omega) _
  refine ⟨h.cur.keep hbel, h.own.kept (Draw.grown_set wr b o x) (.inr hne), ⟨h.gr.os, h.gr.tape, h.gr.output, by omega, fun k hk hk2 => (hbk k (by omega)).trans (h.gr.block k hk hk2)⟩, hlt⟩

theorem infoEv : (Try.prog.info? 87).map (fun i => (i.zero, i.size, i.bytes)) = some (some (.agg #[.int .i64 0, .int .i64 0]), 2, 16) := by kernel_rfl
theorem new_two {w : World} {B : Nat} (h : w.heap.size = B) (a b : Value) (t : TypeId) : ∀ j u, [a, b][j]? = some u → (w.alloc (.cells #[a, b] t)).cell? ((⟨B, 0, none⟩ : Addr).add j) = some u := by
  subst h
  intro j u hj
  have ea : (⟨w.heap.size, 0, none⟩ : Addr).add j = ⟨w.heap.size, j, none⟩ := by
    unfold Addr.add; split
    · next h => subst h; rfl
    · simp
  rw [ea, cell_of_row _ _ j #[a, b] t (0, 0) (heap_alloc_new w _)]
  simpa using hj

set_option maxRecDepth 100000 in
set_option maxHeartbeats 4000000 in
theorem drawEvents_any (g : Nat) (A : Option Addr) (n cap : Nat) (zs : List Int) (p : Nat) (w : World) (hp : p ≤ 301) (hc : Cur w g A n cap zs) :
    Calls Try.prog 46 #[.pointer (some ⟨g, 0, none⟩), .int .i64 p] w fun e w' => ∃ A' cap' es, e = .returned (.slice A' es.length cap') ∧ es.length = p ∧ EvI w' A' es ∧ w.grownBy w' (some g) ∧ ∀ b off, A' = some ⟨b, off, none⟩ → 0 < es.length → w.heap.size ≤ b := by
  have hgl := hc.lt
  have HC := Lib.hid hc
  clear hc
  obtain ⟨i0, hi0, hz0, hz1, hz2⟩ := info_parts infoEv
  have Hi0 := Lib.hid hi0
  have Hz0 := Lib.hid hz0
  have Hz1 := Lib.hid hz1
  have Hz2 := Lib.hid hz2
  clear hi0 hz0 hz1 hz2
  go_enter Try.func46, Try.ntmps46
  go_wp2_with fail
  go_loopw [5, 6, 7] (fun v nw i wr => ∃ (u : Value) (k : Nat) (t : Int) (es : List (Int × Int)), u = v ∧ i = .int .i64 k ∧ k ≤ p ∧ nw = .int .i64 t ∧ 0 ≤ t ∧ t ≤ 25 * k ∧ es.length = k ∧ DeSt w wr g A n cap zs u es) (fun _ _ i _ => p - (intOf i).toNat)
  case atStart =>
    refine ⟨_, 0, 0, [], rfl, rfl, Nat.zero_le _, rfl, by omega, by omega, rfl, HC.out.alloc _, ?_, grown_alloc _ _ _, hgl⟩
    have O0 := World.ownsRow_lit (base := w.heap.size) (e := 87) (size := 2) w #[] 0 (Nat.le_refl _) (by simp) (by simp)
    simpa [cellsV] using O0
  case round =>
    obtain ⟨u, k, t, es, rfl, rfl, hkp, rfl, ht0, ht1, hil, hst⟩ := hrel
    have S := Lib.hid hst
    have Hil := Lib.hid hil
    clear hst hil
    by_cases hlt : k < p
    · have hlt' : (k : Int) < (p : Int) := by omega
      have zr : w.heap.size ≤ wr.heap.size := S.out.gr.size
      go_wp2_with fail
      refine (below_any g A n cap zs 25 _ S.out.cur).mono ?_
      rintro e w1 ⟨x1, rfl, hx, hc1, hg1⟩
      obtain ⟨x10, x11⟩ := hx.2 (by omega)
      replace S := Lib.hid (S.out.draw hc1 hg1)
      have z1 : wr.heap.size ≤ w1.heap.size := hg1.size
      clear hx hc1 hg1
      go_wp2_with fail
      refine (pick_any g A n cap zs w1.heap.size 5 5 [0, 1, 2, 5, x1] _ (S.out.cur.alloc _) (by omega) rfl (by decide) (by decide) (fun i hi => new_cells w1 [0, 1, 2, 5, x1] 3 i hi)).mono ?_
      rintro e w2 ⟨y, rfl, hx, hc1, hg1⟩
      have hy : 0 ≤ y ∧ y ≤ 24 := by simp at hx; omega
      replace S := Lib.hid ((S.out.alloc _).draw hc1 hg1)
      have z2 : w1.heap.size + 1 ≤ w2.heap.size := by have := hg1.size; simpa using this
      clear hx hc1 hg1
      have hw1 : IntKind.i64.wrap (t + y) = t + y := IntWalk.i64_in _ (by omega)
      go_wp2_with fail
      refine (pick_any g A n cap zs w2.heap.size 6 6 [0, 0, 1, 1, 1, 2] _ (S.out.cur.alloc _) (by omega) rfl (by decide) (by decide) (fun i hi => new_cells w2 [0, 0, 1, 1, 1, 2] 3 i hi)).mono ?_
      rintro e w3 ⟨kd, rfl, hx, hc1, hg1⟩
      replace S := Lib.hid ((S.out.alloc _).draw hc1 hg1)
      have z3 : w2.heap.size + 1 ≤ w3.heap.size := by have := hg1.size; simpa using this
      clear hx hc1 hg1
      have hub : Hid (u.ownBlock ≠ some w3.heap.size) := fun e => by have := (S.out.own.lt _ e).2; omega
      go_wp2_with fail
      obtain ⟨W4, hW4⟩ : ∃ W4, w3.alloc (.cells #[.int .i64 kd, .int .i64 (t + y)] 87) = W4 := ⟨_, rfl⟩
      have E : Hid (EB W4 w3.heap.size kd (t + y)) := by rw [← hW4]; exact heap_alloc_new w3 _
      replace S := Lib.hid (S.out.alloc (.cells #[.int .i64 kd, .int .i64 (t + y)] 87))
      rw [hW4] at S ⊢
      clear hW4
      obtain ⟨b, hb⟩ : ∃ b, w3.heap.size = b := ⟨_, rfl⟩
      have hbg : b ≠ g := by omega
      have hbw : w.heap.size ≤ b := by omega
      rw [hb] at E hub ⊢
      clear hb z3
      refine (once_any g A n cap zs 30 _ S.out.cur).mono ?_
      rintro e w5 ⟨o5, rfl, hc1, hg1⟩
      replace S := Lib.hid (S.out.draw hc1 hg1)
      replace E := Lib.hid (E.out.draw hg1 hbg)
      clear hc1 hg1
      cases o5
      · skip
        obtain ⟨q0, q1, q2⟩ := E.out.cells
        clear q2
        have zw : w.heap.size ≤ (w5).heap.size := S.out.gr.size
        go_wp2_with (at_builtin; refine wpList_append_own _ rfl _ _ 26 rfl w.heap.size 87 i0 (.agg #[.int .i64 0, .int .i64 0]) 2 16 Try.underlying26 Hi0.out Hz0.out Hz1.out Hz2.out rfl (by decide) _ _ _ rfl (S.out.own.alloc _) ⟨(w5).heap.size, 0, none⟩ 1 1 [.int .i64 (kd), .int .i64 ((t + y))] rfl rfl ?c1h ?c2h ?c3h ?c4h ?c5h ?_)
        case c1h => exact new_two rfl _ _ _
        case c2h => simp [Value.oneCell']
        case c3h => rw [Hil.out]; unfold maxLen; omega
        case c4h => rw [Hil.out]; omega
        case c5h => simp; omega
        intro v' w9 hown hgr _
        have S9 := Lib.hid (S.out.push hown hgr)
        clear hown hgr q0 q1
        go_wp2
        go_roundw
        case rel => exact ⟨_, k + 1, t + y, es ++ [(kd, (t + y))], rfl, by go_num, by omega, rfl, by omega, by omega, by rw [List.length_append, Hil.out]; rfl, S9.out⟩
        case measure => simp [intOf]; omega
      · go_wp2_with fail
        refine (once_any g A n cap zs 2 _ S.out.cur).mono ?_
        rintro e w6 ⟨o6, rfl, hc1, hg1⟩
        replace S := Lib.hid (S.out.draw hc1 hg1)
        replace E := Lib.hid (E.out.draw hg1 hbg)
        clear hc1 hg1
        have z6 := E.out.lt
        cases o6
        · have hw2 : IntKind.i64.wrap (t + y - 3) = t + y - 3 := IntWalk.i64_in _ (by omega)
          go_wp2_with fail
          refine (pick_any g A n cap zs w6.heap.size 4 4 [-1, t + y - 3, 1000000000, 1000000001] _ (S.out.cur.alloc _) (by omega) rfl (by decide) (by decide) (fun i hi => new_cells w6 [-1, t + y - 3, 1000000000, 1000000001] 3 i hi)).mono ?_
          rintro e w7 ⟨nw, rfl, hx, hc1, hg1⟩
          replace S := Lib.hid ((S.out.alloc _).draw hc1 hg1)
          replace E := Lib.hid ((E.out.alloc _).draw hg1 hbg)
          clear hc1 hg1 hx hw2
          obtain ⟨q0, q1, q2⟩ := E.out.cells
          replace S := Lib.hid (S.out.set (o := 1) hbw hub.out (.int .i64 nw))
          replace E := Lib.hid (E.out.set1 nw)
          obtain ⟨w8, hw8⟩ : ∃ w8, w7.setCell ⟨b, 1, none⟩ (.int .i64 nw) = w8 := ⟨_, rfl⟩
          rw [hw8] at S E
          go_upto_region 12 with fail
          clear q0 q1 q2
          first | rw [hw8] | skip
          clear hw8
          obtain ⟨q0, q1, q2⟩ := E.out.cells
          clear q2
          have zw : w.heap.size ≤ (w8).heap.size := S.out.gr.size
          go_wp2_with (at_builtin; refine wpList_append_own _ rfl _ _ 26 rfl w.heap.size 87 i0 (.agg #[.int .i64 0, .int .i64 0]) 2 16 Try.underlying26 Hi0.out Hz0.out Hz1.out Hz2.out rfl (by decide) _ _ _ rfl (S.out.own.alloc _) ⟨(w8).heap.size, 0, none⟩ 1 1 [.int .i64 (kd), .int .i64 (nw)] rfl rfl ?c1h ?c2h ?c3h ?c4h ?c5h ?_)
          case c1h => exact new_two rfl _ _ _
          case c2h => simp [Value.oneCell']
          case c3h => rw [Hil.out]; unfold maxLen; omega
          case c4h => rw [Hil.out]; omega
          case c5h => simp; omega
          intro v' w9 hown hgr _
          have S9 := Lib.hid (S.out.push hown hgr)
          clear hown hgr q0 q1
          go_wp2
          go_roundw
          case rel => exact ⟨_, k + 1, t + y, es ++ [(kd, nw)], rfl, by go_num, by omega, rfl, by omega, by omega, by rw [List.length_append, Hil.out]; rfl, S9.out⟩
          case measure => simp [intOf]; omega
        · go_wp2_with fail
          refine (pick_any g A n cap zs w6.heap.size 2 2 [-1, 3] _ (S.out.cur.alloc _) (by omega) rfl (by decide) (by decide) (fun i hi => new_cells w6 [-1, 3] 3 i hi)).mono ?_
          rintro e w7 ⟨nw, rfl, hx, hc1, hg1⟩
          replace S := Lib.hid ((S.out.alloc _).draw hc1 hg1)
          replace E := Lib.hid ((E.out.alloc _).draw hg1 hbg)
          clear hc1 hg1 hx
          obtain ⟨q0, q1, q2⟩ := E.out.cells
          replace S := Lib.hid (S.out.set (o := 0) hbw hub.out (.int .i64 nw))
          replace E := Lib.hid (E.out.set0 nw)
          obtain ⟨w8, hw8⟩ : ∃ w8, w7.setCell ⟨b, 0, none⟩ (.int .i64 nw) = w8 := ⟨_, rfl⟩
          rw [hw8] at S E
          go_upto_region 12 with fail
          clear q0 q1 q2
          first | rw [hw8] | skip
          clear hw8
          obtain ⟨q0, q1, q2⟩ := E.out.cells
          clear q2
          have zw : w.heap.size ≤ (w8).heap.size := S.out.gr.size
          go_wp2_with (at_builtin; refine wpList_append_own _ rfl _ _ 26 rfl w.heap.size 87 i0 (.agg #[.int .i64 0, .int .i64 0]) 2 16 Try.underlying26 Hi0.out Hz0.out Hz1.out Hz2.out rfl (by decide) _ _ _ rfl (S.out.own.alloc _) ⟨(w8).heap.size, 0, none⟩ 1 1 [.int .i64 (nw), .int .i64 ((t + y))] rfl rfl ?c1h ?c2h ?c3h ?c4h ?c5h ?_)
          case c1h => exact new_two rfl _ _ _
          case c2h => simp [Value.oneCell']
          case c3h => rw [Hil.out]; unfold maxLen; omega
          case c4h => rw [Hil.out]; omega
          case c5h => simp; omega
          intro v' w9 hown hgr _
          have S9 := Lib.hid (S.out.push hown hgr)
          clear hown hgr q0 q1
          go_wp2
          go_roundw
          case rel => exact ⟨_, k + 1, t + y, es ++ [(nw, (t + y))], rfl, by go_num, by omega, rfl, by omega, by omega, by rw [List.length_append, Hil.out]; rfl, S9.out⟩
          case measure => simp [intOf]; omega
    · have hlt' : ¬ (k : Int) < (p : Int) := by omega
      obtain ⟨A', cap', rfl⟩ := owns_form S.out.own
      go_wp2
      go_ret
      exact ⟨A', cap', es, rfl, by have := Hil.out; omega, evI_owns S.out.own rfl, S.out.gr, fun b off e hp => owns_low2 S.out.own e hp⟩
end Go.Proofs.Ytmmoelijpemlfaa.Draw
