/- What placeOf answers on a valid queue. What freeOk answers, and which marks it leaves. -/
import Derived.Test.YtpjelojmkmednaaLq4
namespace Go.Proofs.Ytpjelojmkmednaa.Que
open Go.RowKit Go.Deep Base Rng
attribute [local go_sem] Oper.semAt_some

theorem bcl {w w' : World} {B b o : Nat} (h : Below B w w') (hb : b < B) : w'.cell? ⟨b, o, none⟩ = w.cell? ⟨b, o, none⟩ := h.cell (p := ⟨b, o, none⟩) hb
theorem bfr {w w' : World} {B b o : Nat} (h : Below B w w') (hb : b < B) : w'.frozen? ⟨b, o, none⟩ = w.frozen? ⟨b, o, none⟩ := h.frozen (p := ⟨b, o, none⟩) hb

theorem bset {a w : World} {B b o : Nat} (h : Below B a w) (hb : B ≤ b) (u : Value) : Below B a (w.setCell ⟨b, o, none⟩ u) := h.setCell (p := ⟨b, o, none⟩) hb u

/-- Behind the turn of the block for deferred calls. -/
theorem put_cell {W : World} {D b o : Nat} {v : Value} (hK : W.heap[D]? = some (.deferred (some []))) (h : W.cell? ⟨b, o, none⟩ = some v) : (W.putObj D (.deferred none)).cell? ⟨b, o, none⟩ = some v :=
  cell_kept h (grownBy_putObj' W D (.deferred none)) (fun r e => by cases e; exact ⟨_, hK, rfl⟩)
theorem put_below {w W : World} {D B : Nat} (hK : W.heap[D]? = some (.deferred (some []))) (h : Below B w W) (hD : B ≤ D) : Below B w (W.putObj D (.deferred none)) :=
  h.trans ((Below.refl B W).grown (grownBy_putObj' W D (.deferred none)) (by have := (Array.getElem?_eq_some_iff.1 hK).1; omega) (fun k e => by cases e; exact hD))

theorem seg_cur {ss : List Sl} : ∀ {us : List Nat} {pr p m : Int} (pre rest : List Nat), Seg ss pr p us m (-1) → us = pre ++ rest → cur ss p pre = match rest with
    | [] => -1
    | y :: _ => (y : Int) := by
  intro us pr p m pre rest h e
  subst e
  obtain ⟨m', q', h1, h2⟩ := (seg_append _ _ _ _ _ _ _).1 h
  have hq : cur ss p pre = q' := by
    rcases List.eq_nil_or_concat pre with rfl | ⟨r, x, rfl⟩
    · exact h1.2.symm
    · rw [List.concat_eq_append] at h1 ⊢
      rw [cur_snoc]
      obtain ⟨m2, q2, _, h4⟩ := (seg_append _ _ _ _ _ _ _).1 h1
      exact h4.2.2.2.2.symm
  rw [hq]
  cases rest with
  | nil => exact h2.2.symm
  | cons y r => exact h2.1

/-- The place of an Id among the places us; -1 where it is not. -/
def placeF (ss : List Sl) (us : List Nat) (id : Int) : Int := match us.find? (fun x => (sl ss x).id == id) with
  | some x => (x : Int)
  | none => -1

set_option maxRecDepth 100000 in
set_option maxHeartbeats 1000000 in
theorem placeOf_any (b : Nat) (id f l r c : Int) (ss : List Sl) (us : List Nat) (w : World) (h : Lk w b ss f l r c) (hin : InR ss f) {m : Int} (hseg : Seg ss (-1) f us m (-1)) (hlt : ∀ x ∈ us, x < 60) (hfew : us.length ≤ 60) :
    Calls Try.prog 82 #[.pointer (some ⟨b, 0, none⟩), .int .i64 id] w fun e w' => e = .returned (.int .i64 (placeF ss us id)) ∧ Below w.heap.size w w' := by
  obtain ⟨n0, n1, n2, n3, _⟩ := h.nums
  have hb := h.lt
  have Hh := Lib.hid h
  have Hin := Lib.hid hin
  have Hseg := Lib.hid hseg
  have Hlt := Lib.hid hlt
  clear h hin hseg hlt
  refine callsIn_wide (n := 3).1 (callsIn_of_wp_marks Try.func82 rfl trivial ?_ rfl)
  refine wpIn_wide.2 ?_
  simp only [Try.ntmps82, List.size_toArray, List.length_cons, List.length_nil, Nat.reduceAdd, Nat.reduceSub, Array.replicate_succ, Array.replicate_zero, List.push_toArray, List.append_toArray, List.nil_append, List.cons_append]
  go_wp2_with fail
  obtain ⟨W0, hW0⟩ : ∃ W0, ((w.alloc (.cells #[.pointer (some ⟨b, 0, none⟩)] 128)).alloc (.cells #[.int .i64 id] 3)).alloc (.cells #[.int .i64 0] 3) = W0 := ⟨_, rfl⟩
  rw [hW0]
  have hB0 : Below w.heap.size w W0 := by rw [← hW0]; exact (((Below.refl _ _).alloc (Nat.le_refl _) _).alloc (by simp) _).alloc (by simp; omega) _
  have q0 : W0.cell? ⟨w.heap.size, 0, none⟩ = some (.pointer (some ⟨b, 0, none⟩)) := by rw [← hW0]; simp [go_sem]
  have q1 : W0.cell? ⟨w.heap.size + 1, 0, none⟩ = some (.int .i64 id) := by rw [← hW0]; simp [go_sem]
  have q2 : W0.cell? ⟨w.heap.size + 1 + 1, 0, none⟩ = some (.int .i64 0) ∧ W0.frozen? ⟨w.heap.size + 1 + 1, 0, none⟩ = false := by rw [← hW0]; simp [go_sem]
  have hs0 : W0.heap.size = w.heap.size + 1 + 1 + 1 := by rw [← hW0]; simp
  have l0 := (Hh.out.below hB0).nums.1
  have Hs0 := Lib.hid hs0
  have HB0 := Lib.hid hB0
  clear hW0 hs0 hB0
  go_still_tail 5, (by kernel_rfl)
  change wpList _ _ _ _ _ W0.drew
  go_wp2_with fail
  refine (follow_any _ _ _).mono ?_
  rintro e w' ⟨rfl, rfl⟩
  go_wp2_with fail
  obtain ⟨W2, hW2⟩ : ∃ W2, ((W0.alloc (.cells #[.pointer (some ⟨b, 0, none⟩)] 128)).alloc (.cells #[.int .i64 f] 3)).drew = W2 := ⟨_, rfl⟩
  rw [hW2]
  have hB2 : Below W0.heap.size W0 W2 := by rw [← hW2]; exact (((Below.refl _ _).alloc (Nat.le_refl _) _).alloc (by simp) _).drew
  have p0 : W2.cell? ⟨W0.heap.size, 0, none⟩ = some (.pointer (some ⟨b, 0, none⟩)) := by rw [← hW2]; simp [go_sem]
  have p1 : W2.cell? ⟨W0.heap.size + 1, 0, none⟩ = some (.int .i64 f) := by rw [← hW2]; simp [go_sem]
  have hs2 : W2.heap.size = W0.heap.size + 1 + 1 := by rw [← hW2]; show ((W0.alloc _).alloc _).heap.size = _; simp
  have hz1 : w.heap.size + 1 + 1 < W0.heap.size := by rw [Hs0.out]; omega
  have hz2 : W0.heap.size + 1 < W2.heap.size := by rw [hs2]; omega
  clear hs2 hW2
  have q0' : W2.cell? ⟨w.heap.size, 0, none⟩ = some (.pointer (some ⟨b, 0, none⟩)) := (bcl hB2 (by omega)).trans q0
  have q1' : W2.cell? ⟨w.heap.size + 1, 0, none⟩ = some (.int .i64 id) := (bcl hB2 (by omega)).trans q1
  have q2' : W2.cell? ⟨w.heap.size + 1 + 1, 0, none⟩ = some (.int .i64 0) := (bcl hB2 (by omega)).trans q2.1
  have q3' : W2.frozen? ⟨w.heap.size + 1 + 1, 0, none⟩ = false := (bfr hB2 (by omega)).trans q2.2
  have hwB : Below w.heap.size w W2 := bel_trans HB0.out hB2
  have HL2 := Lib.hid (Hh.out.below hwB)
  refine wpIn_wide.1 (range_wide (P := Try.prog) (lb := #[.pointer (some ⟨W0.heap.size + 1, 0, none⟩), .pointer (some ⟨W0.heap.size, 0, none⟩)]) rfl (enters_of Try.func125 (by kernel_rfl) rfl) (follow1_seq (W0.heap.size + 1) W0.heap.size b ss f l r c f Hin.out) (fun _ => rfl)
    (fun pre W => (∃ rest, us = pre ++ rest ∧ ∀ x ∈ pre, (sl ss x).id ≠ id) ∧ Below W2.heap.size W2 W)
    (fun c W => c = .ret ∧ W.cell? ⟨w.heap.size + 1 + 1, 0, none⟩ = some (.int .i64 (placeF ss us id)) ∧ Below w.heap.size w W)
    (OwnFrom.and (ownFrom_pure _ _) (ownFrom_below (Nat.le_refl _) (Nat.le_refl _)))
    (fun c s X Y row hs hg hr => ⟨hs.1, cell_kept hs.2.1 hg (fun r e => (hr r e).2), hs.2.2.grown hg hs.2.2.size (fun k e => by have := (hr k e).1; omega)⟩)
    ?hR ⟨⟨us, rfl, by simp⟩, Below.refl _ _⟩
    (fun x => { tmps := #[.pointer (some ⟨b, 0, none⟩), .int .i64 id, .pointer (some ⟨w.heap.size, 0, none⟩), .pointer (some ⟨w.heap.size + 1, 0, none⟩), .pointer (some ⟨w.heap.size + 1 + 1, 0, none⟩), .int .i64 x, .pointer (some ⟨b, 0, none⟩), .pointer (some ⟨b, 0, none⟩), .pointer (some ⟨b, 0, none⟩), .pointer (some ⟨b, 240, none⟩), .int .i64 f,
      .func (.func 125) #[] #[.pointer (some ⟨W0.heap.size + 1, 0, none⟩), .pointer (some ⟨W0.heap.size, 0, none⟩)], .int .i64 x, undef, undef, undef, undef, undef, undef, undef, undef, undef, undef], defers := [] })
    ?assign ?body ?done ?stop)
  case hR =>
    rintro pre W ⟨⟨rest, hr, _⟩, hbw⟩
    have hl : pre.length ≤ us.length := by rw [hr, List.length_append]; omega
    exact ⟨(bcl hbw (by omega)).trans p1, (bcl hbw (by omega)).trans p0, HL2.out.below hbw, fun x hx => Hlt.out x (by rw [hr]; simp [hx]), by omega⟩
  case assign =>
    intro lp x W K hK
    simp only [fEnc]
    gi_wp2
    exact hK
  case body =>
    rintro lp pre x W ⟨⟨rest, hr, hno⟩, hbw⟩ ⟨hcur, hx60⟩
    have hsc := seg_cur pre rest Hseg.out hr
    rw [hcur] at hsc
    cases rest with
    | nil => exact absurd hsc (by simp)
    | cons y rest' =>
      obtain rfl : x = y := by simp at hsc; omega
      have w0 : W.cell? ⟨w.heap.size, 0, none⟩ = some (.pointer (some ⟨b, 0, none⟩)) := (bcl hbw (by omega)).trans q0'
      have w1 : W.cell? ⟨w.heap.size + 1, 0, none⟩ = some (.int .i64 id) := (bcl hbw (by omega)).trans q1'
      have w2 : W.cell? ⟨w.heap.size + 1 + 1, 0, none⟩ = some (.int .i64 0) := (bcl hbw (by omega)).trans q2'
      have w3 : W.frozen? ⟨w.heap.size + 1 + 1, 0, none⟩ = false := (bfr hbw (by omega)).trans q3'
      obtain ⟨c0, _, _, _⟩ := (HL2.out.below hbw).slot hx60
      have Hr := Lib.hid hr
      have Hno := Lib.hid hno
      have Hbw := Lib.hid hbw
      clear hr hno hbw hsc hcur q0 q1 q2 q0' q1' q2' q3' p0 p1 n0 n1 n2 n3 l0
      have hx0 : (0 : Int) ≤ (x : Int) := by omega
      have hx1 : (x : Int) < 60 := by omega
      by_cases he : (sl ss x).id = id
      · have He := Lib.hid he
        rw [he] at c0
        clear he
        gi_wp2
        have Hp : Hid (placeF ss us id = (x : Int)) := by
          show placeF ss us id = _
          unfold placeF
          have : us.find? (fun y => (sl ss y).id == id) = some x := by
            rw [Hr.out, List.find?_append]
            have hn : pre.find? (fun y => (sl ss y).id == id) = none := List.find?_eq_none.2 (fun y hy => by simpa using Hno.out y hy)
            simp [hn, He.out]
          rw [this]
        refine still_round 8 (by kernel_rfl) (by kernel_rfl) (by kernel_rfl) ?_
        simp only [List.take_succ_cons, List.take_zero, List.drop_succ_cons, List.drop_zero]
        repeat still_step
        refine wpStill_nil ?_
        gi_wp2
        exact ⟨((KeepsOthers.setCell _ _ _).trans (KeepsOthers.drew _)).from _, rfl, (World.cell?_setCell_same' _ _ _ (by rw [w2]; rfl)).trans (by rw [Hp.out]), (bset (hwB.trans (Hbw.out.mono (by omega))) (by omega) _).drew⟩
      · have hb1 : ((sl ss x).id == id) = false := beq_eq_false_iff_ne.2 he
        have He := Lib.hid he
        clear he
        generalize (sl ss x).id = sid at c0 hb1
        gi_wp2
        refine still_round 8 (by kernel_rfl) (by kernel_rfl) (by kernel_rfl) ?_
        simp only [List.take_succ_cons, List.take_zero, List.drop_succ_cons, List.drop_zero]
        repeat still_step
        refine wpStill_nil ?_
        gi_wp2
        exact ⟨(KeepsOthers.drew _).from _, ⟨rest', by rw [Hr.out]; simp, fun y hy => by
          rcases List.mem_append.1 hy with hy | hy
          · exact Hno.out y hy
          · simp at hy; subst hy; exact He.out⟩, Hbw.out.drew⟩
  case done =>
    rintro D xs W hD hS ⟨⟨rest, hr, hno⟩, hbw⟩ hK
    have hsc := seg_cur xs rest Hseg.out hr
    have w2 : W.cell? ⟨w.heap.size + 1 + 1, 0, none⟩ = some (.int .i64 0) := (bcl hbw (by omega)).trans q2'
    have w3 : W.frozen? ⟨w.heap.size + 1 + 1, 0, none⟩ = false := (bfr hbw (by omega)).trans q3'
    have Hp : Hid (placeF ss us id = -1) := by
      show placeF ss us id = _
      cases rest with
      | cons y rest' =>
        rw [show cur ss f xs = -1 from hS] at hsc
        exact absurd hsc (by simp)
      | nil =>
        rw [List.append_nil] at hr
        unfold placeF
        have : us.find? (fun y => (sl ss y).id == id) = none := List.find?_eq_none.2 (fun y hy => by rw [hr] at hy; simpa using hno y hy)
        rw [this]
    clear hsc hr hno hS
    have hK2 : (W.setCell ⟨w.heap.size + 1 + 1, 0, none⟩ (.int .i64 (-1))).heap[D]? = some (.deferred (some [])) := (KeepsOthers.setCell W ⟨w.heap.size + 1 + 1, 0, none⟩ (.int .i64 (-1))).same D _ hK rfl
    go_wp2
    refine ⟨by simp, .inl ⟨_, _, rfl, run_takeDeferred hK2, ?_⟩⟩
    have hcell := put_cell hK2 (World.cell?_setCell_same' W ⟨w.heap.size + 1 + 1, 0, none⟩ (.int .i64 (-1)) (by rw [w2]; rfl))
    exact ⟨.int .i64 (-1), by simp [results, Try.results82, go_sem, hcell], by rw [Hp.out], put_below hK2 (bset (hwB.trans (hbw.mono (by omega))) (by omega) _) (by omega)⟩
  case stop =>
    rintro D cc W hD ⟨rfl, hc, hbw⟩ hK
    refine wpIn_wide.2 ?_
    go_wp2
    refine ⟨by simp, .inl ⟨_, _, rfl, run_takeDeferred hK, ?_⟩⟩
    have hcell := put_cell hK hc
    exact ⟨.int .i64 (placeF ss us id), by simp [results, Try.results82, go_sem, hcell], rfl, put_below hK hbw (by omega)⟩
end Go.Proofs.Ytpjelojmkmednaa.Que

namespace Go.Proofs.Ytpjelojmkmednaa.Que
open Go.RowKit Go.Deep Base Rng
attribute [local go_sem] Oper.semAt_some

theorem gcell {a b : World} {g k o : Nat} (h : a.grownBy b (some g)) (hk : k < a.heap.size) (hne : k ≠ g) : b.cell? ⟨k, o, none⟩ = a.cell? ⟨k, o, none⟩ :=
  World.cell?_of_block (w := a) (h.block k hk (fun e => hne (by injection e)))
theorem gfroz {a b : World} {g k o : Nat} (h : a.grownBy b (some g)) (hk : k < a.heap.size) (hne : k ≠ g) : b.frozen? ⟨k, o, none⟩ = a.frozen? ⟨k, o, none⟩ :=
  World.frozen?_of_block (w := a) (h.block k hk (fun e => hne (by injection e)))
theorem gtrans {a b c : World} {row : Option Nat} (h : a.grownBy b row) (k : b.grownBy c row) : a.grownBy c row :=
  ⟨k.os.trans h.os, k.tape.trans h.tape, k.output.trans h.output, Nat.le_trans h.size k.size, fun i hi hne => (k.block i (Nat.lt_of_lt_of_le hi h.size) hne).trans (h.block i hi hne)⟩
theorem gset (w : World) (g o : Nat) (v : Value) : w.grownBy (w.setCell ⟨g, o, none⟩ v) (some g) := Draw_grown_set w g o v
theorem galloc (w : World) (o : Obj) (row : Option Nat) : w.grownBy (w.alloc o) row := World.grownBy_alloc w o row
theorem gturns {a b : World} {g : Nat} (h : a.grownBy b (some g)) : Turns g (g + 1) a b :=
  ⟨h.os, h.tape, h.output, h.size, fun k hk ho => h.block k hk (fun e => by injection e with e; omega)⟩
theorem ownFrom_grown {β : Type} {B g : Nat} {w0 : World} (hB : w0.heap.size ≤ B) : OwnFrom B (fun (_ : β) W => w0.grownBy W (some g)) :=
  fun _ X Y row hs hg hr => ⟨hg.os.trans hs.os, hg.tape.trans hs.tape, hg.output.trans hs.output, Nat.le_trans hs.size hg.size, fun i hi hne => (hg.block i (Nat.lt_of_lt_of_le hi hs.size) (fun e => by have := (hr i e.symm).1; omega)).trans (hs.block i hi hne)⟩
theorem own_row {β : Type} (g : Nat) (t : TypeId) (n : Nat) (f : β → Nat → Value) : Own (fun s W => W.rowIs g t n (f s)) := fun s X Y row hs hg hr => by
  obtain ⟨cs, hb, hn, hc⟩ := hs
  refine ⟨cs, (hg.block g (Array.getElem?_eq_some_iff.1 hb).1 (fun e => ?_)).trans hb, hn, hc⟩
  obtain ⟨o, ho, hcl⟩ := hr g e.symm
  rw [hb] at ho
  cases ho
  cases hcl

theorem tset {lo hi : Nat} {a w : World} (h : Turns lo hi a w) {b o : Nat} (hb : a.heap.size ≤ b) (u : Value) : Turns lo hi a (w.setCell ⟨b, o, none⟩ u) :=
  ⟨h.os, h.tape, h.output, by simpa [World.setCell] using h.size, fun k hk ho => (Below.heap_setCell w ⟨b, o, none⟩ u k (by show k ≠ b; omega)).trans (h.block k hk ho)⟩
theorem talloc {lo hi : Nat} {a w : World} (h : Turns lo hi a w) (o : Obj) : Turns lo hi a (w.alloc o) :=
  ⟨h.os, h.tape, h.output, Nat.le_trans h.size (by simp), fun k hk ho => (Below.heap_alloc w o k (Nat.lt_of_lt_of_le hk h.size)).trans (h.block k hk ho)⟩
theorem tput {lo hi : Nat} {a w : World} (h : Turns lo hi a w) {D : Nat} (hD : a.heap.size ≤ D) (o : Obj) : Turns lo hi a (w.putObj D o) :=
  ⟨h.os, h.tape, h.output, by simpa [World.putObj] using h.size, fun k hk ho => (World.putObj_heap_other (by omega)).trans (h.block k hk ho)⟩
theorem cell_set_alloc {W : World} {b o : Nat} {u v : Value} {ob : Obj} (h : W.cell? ⟨b, o, none⟩ = some v) (hb : b < W.heap.size) : ((W.setCell ⟨b, o, none⟩ u).alloc ob).cell? ⟨b, o, none⟩ = some u := by
  rw [World.cell?_alloc_lt _ _ _ (by simpa [World.setCell] using hb)]
  exact World.cell?_setCell_same' _ _ _ (by rw [h]; rfl)

def FreeEnd (sb : Nat) (ss : List Sl) (r : Int) (us : List Nat) (w : World) (e : Ending) (w' : World) : Prop :=
  e = .returned (.bool (freeW ss 61 r us).isSome) ∧ Turns sb (sb + 1) w w' ∧ ∀ vs, freeW ss 61 r us = some vs → w'.rowIs sb 139 60 (fun j => .bool (decide (j ∈ vs)))

/-- Between two rounds of the free walk. -/
structure FreeI (sb : Nat) (W2 : World) (ss : List Sl) (r : Int) (us pre : List Nat) (W : World) : Prop where
  row : W.rowIs sb 139 60 (fun j => .bool (decide (j ∈ us ++ pre)))
  old : W2.grownBy W (some sb)
  nd : (us ++ pre).Nodup
  lt : ∀ x ∈ us ++ pre, x < 60
  walk : freeW ss 61 r us = freeW ss (61 - pre.length) (cur ss r pre) (us ++ pre)

theorem FreeI.few {sb : Nat} {W2 : World} {ss : List Sl} {r : Int} {us pre : List Nat} {W : World} (h : FreeI sb W2 ss r us pre W) : us.length + pre.length ≤ 60 := by
  have := nodup_le 60 _ h.nd h.lt
  rwa [List.length_append] at this

theorem freeI_own {sb : Nat} {W2 : World} {ss : List Sl} {r : Int} {us : List Nat} : OwnFrom W2.heap.size (fun pre W => FreeI sb W2 ss r us pre W) := fun pre X Y row hs hg hr =>
  ⟨(own_row sb 139 60 (fun (p : List Nat) j => .bool (decide (j ∈ us ++ p)))) pre X Y row hs.row hg (fun r e => (hr r e).2), (ownFrom_grown (β := Unit) (Nat.le_refl _)) () X Y row hs.old hg hr, hs.nd, hs.lt, hs.walk⟩

set_option maxRecDepth 100000 in
set_option maxHeartbeats 1000000 in
theorem freeOk_any (b sb : Nat) (f l r c : Int) (ss : List Sl) (us : List Nat) (w : World) (h : Lk w b ss f l r c) (hin : InR ss r) (hrow : w.rowIs sb 139 60 (fun j => .bool (decide (j ∈ us)))) (hne : b ≠ sb) (hnd : us.Nodup) (hlt : ∀ x ∈ us, x < 60) :
    Calls Try.prog 132 #[.pointer (some ⟨b, 0, none⟩), .pointer (some ⟨sb, 0, none⟩)] w (FreeEnd sb ss r us w) := by
  have hb := h.lt
  have hsb := hrow.lt
  have Hh := Lib.hid h
  have Hin := Lib.hid hin
  have Hrow := Lib.hid hrow
  have Hnd := Lib.hid hnd
  have Hlt := Lib.hid hlt
  have Hne := Lib.hid hne
  clear h hin hrow hnd hlt hne
  refine callsIn_wide (n := 3).1 (callsIn_of_wp_marks Try.func132 rfl trivial ?_ rfl)
  refine wpIn_wide.2 ?_
  simp only [Try.ntmps132, List.size_toArray, List.length_cons, List.length_nil, Nat.reduceAdd, Nat.reduceSub, Array.replicate_succ, Array.replicate_zero, List.push_toArray, List.append_toArray, List.nil_append, List.cons_append]
  go_wp2_with fail
  obtain ⟨W0, hW0⟩ : ∃ W0, ((w.alloc (.cells #[.pointer (some ⟨b, 0, none⟩)] 128)).alloc (.cells #[.pointer (some ⟨sb, 0, none⟩)] 141)).alloc (.cells #[.bool false] 4) = W0 := ⟨_, rfl⟩
  rw [hW0]
  have hB0 : Below w.heap.size w W0 := by rw [← hW0]; exact (((Below.refl _ _).alloc (Nat.le_refl _) _).alloc (by simp) _).alloc (by simp; omega) _
  have q0 : W0.cell? ⟨w.heap.size, 0, none⟩ = some (.pointer (some ⟨b, 0, none⟩)) := by rw [← hW0]; simp [go_sem]
  have q1 : W0.cell? ⟨w.heap.size + 1, 0, none⟩ = some (.pointer (some ⟨sb, 0, none⟩)) := by rw [← hW0]; simp [go_sem]
  have q2 : W0.cell? ⟨w.heap.size + 1 + 1, 0, none⟩ = some (.bool false) ∧ W0.frozen? ⟨w.heap.size + 1 + 1, 0, none⟩ = false := by rw [← hW0]; simp [go_sem]
  have hs0 : W0.heap.size = w.heap.size + 1 + 1 + 1 := by rw [← hW0]; simp
  have l0 := (Hh.out.below hB0).nums.2.2.1
  have HB0 := Lib.hid hB0
  have hz1 : w.heap.size + 1 + 1 < W0.heap.size := by rw [hs0]; omega
  clear hW0 hs0 hB0
  go_still_tail 5, (by kernel_rfl)
  change wpList _ _ _ _ _ W0.drew
  go_wp2_with fail
  refine (follow_any _ _ _).mono ?_
  rintro e w' ⟨rfl, rfl⟩
  go_wp2_with fail
  obtain ⟨W2, hW2⟩ : ∃ W2, ((W0.alloc (.cells #[.pointer (some ⟨b, 0, none⟩)] 128)).alloc (.cells #[.int .i64 r] 3)).drew = W2 := ⟨_, rfl⟩
  rw [hW2]
  have hB2 : Below W0.heap.size W0 W2 := by rw [← hW2]; exact (((Below.refl _ _).alloc (Nat.le_refl _) _).alloc (by simp) _).drew
  have p0 : W2.cell? ⟨W0.heap.size, 0, none⟩ = some (.pointer (some ⟨b, 0, none⟩)) := by rw [← hW2]; simp [go_sem]
  have p1 : W2.cell? ⟨W0.heap.size + 1, 0, none⟩ = some (.int .i64 r) := by rw [← hW2]; simp [go_sem]
  have hs2 : W2.heap.size = W0.heap.size + 1 + 1 := by rw [← hW2]; show ((W0.alloc _).alloc _).heap.size = _; simp
  have hz2 : W0.heap.size + 1 < W2.heap.size := by rw [hs2]; omega
  clear hs2 hW2
  have q0' : W2.cell? ⟨w.heap.size, 0, none⟩ = some (.pointer (some ⟨b, 0, none⟩)) := (bcl hB2 (by omega)).trans q0
  have q1' : W2.cell? ⟨w.heap.size + 1, 0, none⟩ = some (.pointer (some ⟨sb, 0, none⟩)) := (bcl hB2 (by omega)).trans q1
  have q2' : W2.cell? ⟨w.heap.size + 1 + 1, 0, none⟩ = some (.bool false) := (bcl hB2 (by omega)).trans q2.1
  have q3' : W2.frozen? ⟨w.heap.size + 1 + 1, 0, none⟩ = false := (bfr hB2 (by omega)).trans q2.2
  have hwB : Below w.heap.size w W2 := bel_trans HB0.out hB2
  have HL2 := Lib.hid (Hh.out.below hwB)
  have Hrow2 := Lib.hid (Hrow.out.of_block (hwB.block sb hsb))
  refine wpIn_wide.1 (range_wide (P := Try.prog) (lb := #[.pointer (some ⟨W0.heap.size + 1, 0, none⟩), .pointer (some ⟨W0.heap.size, 0, none⟩)]) rfl (enters_of Try.func125 (by kernel_rfl) rfl) (follow1_seq (W0.heap.size + 1) W0.heap.size b ss f l r c r Hin.out) (fun _ => rfl)
    (fun pre W => FreeI sb W2 ss r us pre W)
    (fun c W => c = .ret ∧ W.cell? ⟨w.heap.size + 1 + 1, 0, none⟩ = some (.bool false) ∧ Turns sb (sb + 1) w W ∧ freeW ss 61 r us = none)
    freeI_own
    (fun c s X Y row hs hg hr => ⟨hs.1, cell_kept hs.2.1 hg (fun r e => (hr r e).2), ⟨hg.os.trans hs.2.2.1.os, hg.tape.trans hs.2.2.1.tape, hg.output.trans hs.2.2.1.output, Nat.le_trans hs.2.2.1.size hg.size, fun k hk ho => (hg.block k (Nat.lt_of_lt_of_le hk hs.2.2.1.size) (fun e => by have := (hr k e.symm).1; have := hwB.size; omega)).trans (hs.2.2.1.block k hk ho)⟩, hs.2.2.2⟩)
    ?hR ⟨Hrow2.out.congr (fun _ _ => by simp), ⟨rfl, rfl, rfl, Nat.le_refl _, fun _ _ _ => rfl⟩, by simpa using Hnd.out, by simpa using Hlt.out, by simp [cur_nil]⟩
    (fun x => { tmps := #[.pointer (some ⟨b, 0, none⟩), .pointer (some ⟨sb, 0, none⟩), .pointer (some ⟨w.heap.size, 0, none⟩), .pointer (some ⟨w.heap.size + 1, 0, none⟩), .pointer (some ⟨w.heap.size + 1 + 1, 0, none⟩), .int .i64 x, undef, .pointer (some ⟨b, 0, none⟩), .pointer (some ⟨b, 0, none⟩), .pointer (some ⟨b, 0, none⟩), .pointer (some ⟨b, 242, none⟩), .int .i64 r,
      .func (.func 125) #[] #[.pointer (some ⟨W0.heap.size + 1, 0, none⟩), .pointer (some ⟨W0.heap.size, 0, none⟩)], .int .i64 x, undef, undef, undef, undef, undef, undef, undef, undef, undef, undef, undef, undef, undef, undef, undef, undef, undef, undef, undef, undef, undef, undef, undef, undef, undef, undef, undef, undef, undef], defers := [] })
    ?assign ?body ?done ?stop)
  case hR =>
    rintro pre W hI
    have hf := hI.few
    have hz := hwB.size
    exact ⟨(gcell hI.old (by omega) (by omega)).trans p1, (gcell hI.old (by omega) (by omega)).trans p0, HL2.out.of_block (hI.old.block b (by omega) (fun e => Hne.out (by injection e))), fun x hx => hI.lt x (by simp [hx]), by omega⟩
  case assign =>
    intro lp x W K hK
    simp only [fEnc]
    gi_wp2
    exact hK
  case body =>
    rintro lp pre x W hI ⟨hcur, hx60⟩
    have hz := hwB.size
    have w0 : W.cell? ⟨w.heap.size, 0, none⟩ = some (.pointer (some ⟨b, 0, none⟩)) := (gcell hI.old (by omega) (by omega)).trans q0'
    have w1 : W.cell? ⟨w.heap.size + 1, 0, none⟩ = some (.pointer (some ⟨sb, 0, none⟩)) := (gcell hI.old (by omega) (by omega)).trans q1'
    have w2 : W.cell? ⟨w.heap.size + 1 + 1, 0, none⟩ = some (.bool false) := (gcell hI.old (by omega) (by omega)).trans q2'
    have w3 : W.frozen? ⟨w.heap.size + 1 + 1, 0, none⟩ = false := (gfroz hI.old (by omega) (by omega)).trans q3'
    have hlk := HL2.out.of_block (hI.old.block b (by omega) (fun e => Hne.out (by injection e)))
    obtain ⟨c0, c1, c2, c3⟩ := hlk.slot hx60
    have hsn := hI.row.cell hx60
    have hsf : W.frozen? ⟨sb, x, none⟩ = false := hI.row.frozen x
    have hzW := hI.old.size
    obtain ⟨F, hF⟩ : ∃ F, 61 - pre.length = F + 1 := ⟨60 - pre.length, by have := hI.few; omega⟩
    have hwk := hI.walk
    rw [hcur, hF] at hwk
    have Hwk := Lib.hid hwk
    have HF := Lib.hid hF
    have HI := Lib.hid hI
    have Hcur := Lib.hid hcur
    have Hs : Hid (sl ss x = sl ss x) := rfl
    clear hwk hF hI hcur hlk q0 q1 q2 q0' q1' q2' q3' p0 p1 l0
    have y0 : w.heap.size < W.heap.size := by omega
    have y1 : w.heap.size + 1 < W.heap.size := by omega
    have y2 : w.heap.size + 1 + 1 < W.heap.size := by omega
    have y3 : sb < W.heap.size := by omega
    have HT : Hid (∀ ob, Turns sb (sb + 1) w ((W.setCell ⟨w.heap.size + 1 + 1, 0, none⟩ (.bool false)).alloc ob)) := fun ob => talloc (tset ((Turns.of_below hwB).trans (gturns HI.out.old)) (by omega) _) ob
    have HC : Hid (∀ ob, ((W.setCell ⟨w.heap.size + 1 + 1, 0, none⟩ (.bool false)).alloc ob).cell? ⟨w.heap.size + 1 + 1, 0, none⟩ = some (.bool false)) := fun ob => cell_set_alloc w2 y2
    by_cases hv : x ∈ us ++ pre
    · rw [decide_eq_true hv] at hsn
      have Hn := Lib.hid (Hwk.out.trans (freeW_seen hx60 hv))
      clear hv
      generalize sl ss x = s at c0 c1 c2 c3
      gi_wp2
      exact ⟨((KeepsOthers.setCell _ _ _).trans (KeepsOthers.alloc _ _)).from _, rfl, HC.out _, HT.out _, Hn.out⟩
    · rw [decide_eq_false hv] at hsn
      have Hv := Lib.hid hv
      clear hv
      cases hok : okF (sl ss x)
      · have Hn := Lib.hid (Hwk.out.trans (freeW_bad hx60 hok))
        have Hok := Lib.hid hok
        clear hok
        obtain ⟨s, hs⟩ : ∃ s, sl ss x = s := ⟨_, rfl⟩
        rw [hs] at c0 c1 c2 c3
        have Hok' : Hid (okF s = false) := by rw [← hs]; exact Hok.out
        clear hs Hok
        obtain ⟨id, prev, next, used⟩ := s
        dsimp only at c0 c1 c2 c3
        cases used
        · by_cases hi : id = 0
          · subst hi
            have hp : prev ≠ -1 := by rintro rfl; exact absurd Hok'.out (by simp [okF])
            have hp1 : (prev == -1) = false := beq_eq_false_iff_ne.2 hp
            have hp2 : (prev != -1) = true := by simp [hp]
            clear hp
            gi_wp2
            exact ⟨((KeepsOthers.setCell _ _ _).trans (KeepsOthers.alloc _ _)).from _, rfl, HC.out _, HT.out _, Hn.out⟩
          · have hi1 : (id == 0) = false := beq_eq_false_iff_ne.2 hi
            have hi2 : (id != 0) = true := by simp [hi]
            clear hi
            gi_wp2
            exact ⟨((KeepsOthers.setCell _ _ _).trans (KeepsOthers.alloc _ _)).from _, rfl, HC.out _, HT.out _, Hn.out⟩
        · gi_wp2
          exact ⟨((KeepsOthers.setCell _ _ _).trans (KeepsOthers.alloc _ _)).from _, rfl, HC.out _, HT.out _, Hn.out⟩
      · have Hn := Lib.hid (Hwk.out.trans (freeW_next hx60 Hv.out hok))
        have HQ : Hid (∀ ob, FreeI sb W2 ss r us (pre ++ [x]) ((W.setCell ⟨sb, x, none⟩ (.bool true)).alloc ob)) := fun ob => by
          have e : us ++ (pre ++ [x]) = (us ++ pre) ++ [x] := by simp
          refine ⟨?_, gtrans HI.out.old (gtrans (gset W sb x _) (galloc _ ob _)), by rw [e]; exact nodup_snoc HI.out.nd Hv.out, by rw [e]; exact lt_snoc HI.out.lt hx60, ?_⟩
          · refine ((HI.out.row.set x (.bool true)).alloc ob).congr (fun j _ => ?_)
            rw [e]
            by_cases ej : j = x
            · subst ej; simp
            · rw [if_neg ej]; simp [ej]
          · rw [e, cur_snoc, Hn.out]
            have := HF.out
            rw [show 61 - (pre ++ [x]).length = F from by rw [List.length_append, List.length_singleton]; omega]
        obtain ⟨s, hs⟩ : ∃ s, sl ss x = s := ⟨_, rfl⟩
        rw [hs] at c0 c1 c2 c3 hok
        have Hok := Lib.hid hok
        clear hs hok
        obtain ⟨id, prev, next, used⟩ := s
        dsimp only at c0 c1 c2 c3
        have hk := Hok.out
        unfold okF at hk
        simp at hk
        obtain ⟨⟨rfl, rfl⟩, rfl⟩ := hk
        gi_wp2
        exact ⟨((KeepsOthers.setCell _ _ _).trans (KeepsOthers.alloc _ _)).from _, HQ.out _⟩
  case done =>
    rintro D xs W hD hS hI hK
    have hz := hwB.size
    have w2 : W.cell? ⟨w.heap.size + 1 + 1, 0, none⟩ = some (.bool false) := (gcell hI.old (by omega) (by omega)).trans q2'
    have w3 : W.frozen? ⟨w.heap.size + 1 + 1, 0, none⟩ = false := (gfroz hI.old (by omega) (by omega)).trans q3'
    have hfin : freeW ss 61 r us = some (us ++ xs) := by
      have h1 := hI.walk
      rw [show cur ss r xs = -1 from hS] at h1
      have := hI.few
      rw [show 61 - xs.length = (60 - xs.length) + 1 from by omega] at h1
      exact h1.trans freeW_nil
    have Hfin := Lib.hid hfin
    have HI := Lib.hid hI
    clear hfin hI hS q0 q1 q2 q0' q1' q2' q3' p0 p1 l0
    have hK2 : (W.setCell ⟨w.heap.size + 1 + 1, 0, none⟩ (.bool true)).heap[D]? = some (.deferred (some [])) := (KeepsOthers.setCell W ⟨w.heap.size + 1 + 1, 0, none⟩ (.bool true)).same D _ hK rfl
    go_wp2
    refine ⟨by simp, .inl ⟨_, _, rfl, run_takeDeferred hK2, ?_⟩⟩
    have hcell := put_cell hK2 (World.cell?_setCell_same' W ⟨w.heap.size + 1 + 1, 0, none⟩ (.bool true) (by rw [w2]; rfl))
    refine ⟨.bool true, by simp [results, Try.results132, go_sem, hcell], by rw [Hfin.out]; rfl, tput (tset ((Turns.of_below hwB).trans (gturns HI.out.old)) (by omega) _) (by omega) _, fun vs hvs => ?_⟩
    obtain rfl : us ++ xs = vs := by rw [Hfin.out] at hvs; injection hvs
    exact (HI.out.row.setOther (by show sb ≠ w.heap.size + 1 + 1; omega) _).of_block (World.putObj_heap_other (by omega))
  case stop =>
    rintro D cc W hD ⟨rfl, hc, ht, hf⟩ hK
    have Hf := Lib.hid hf
    have Ht := Lib.hid ht
    clear hf ht
    have hz := hwB.size
    refine wpIn_wide.2 ?_
    go_wp2
    refine ⟨by simp, .inl ⟨_, _, rfl, run_takeDeferred hK, ?_⟩⟩
    have hcell := put_cell hK hc
    exact ⟨.bool false, by simp [results, Try.results132, go_sem, hcell], by rw [Hf.out]; rfl, tput Ht.out (by omega) _, fun vs hvs => by rw [Hf.out] at hvs; cases hvs⟩
end Go.Proofs.Ytpjelojmkmednaa.Que
