/- What placeOf answers on a valid queue. -/
import Derived.Test.YtjbfmagedkmngaaRng2
import Derived.Test.YtjbfmagedkmngaaRng0
namespace Go.Proofs.Ytjbfmagedkmngaa.Que
open Go.RowKit Go.Deep Base Rng
attribute [local go_sem] Oper.semAt_some

theorem bcl {w w' : World} {B b o : Nat} (h : Below B w w') (hb : b < B) : w'.cell? ⟨b, o, none⟩ = w.cell? ⟨b, o, none⟩ := h.cell (p := ⟨b, o, none⟩) hb
theorem bfr {w w' : World} {B b o : Nat} (h : Below B w w') (hb : b < B) : w'.frozen? ⟨b, o, none⟩ = w.frozen? ⟨b, o, none⟩ := h.frozen (p := ⟨b, o, none⟩) hb

theorem bset {a w : World} {B b o : Nat} (h : Below B a w) (hb : B ≤ b) (u : Value) : Below B a (w.setCell ⟨b, o, none⟩ u) := h.setCell (p := ⟨b, o, none⟩) hb u

/-- Behind the turn of the block for deferred calls. -/
theorem put_cell {W : World} {D b o : Nat} {v : Value} (hK : W.heap[D]? = some (.deferred (some []))) (h : W.cell? ⟨b, o, none⟩ = some v) : (W.putObj D (.deferred none)).cell? ⟨b, o, none⟩ = some v :=
  cell_kept h (grownBy_putObj' W D (.deferred none)) (fun r e => by cases e; exact ⟨_, hK, rfl⟩)
theorem put_below {w W : World} {D B : Nat} (hK : W.heap[D]? = some (.deferred (some []))) (h : Below B w W) (hD : B ≤ D) : Below B w (W.putObj D (.deferred none)) :=
  h.trans ((Below.refl B W).grown (grownBy_putObj' W D (.deferred none)) (by have := (Array.getElem?_eq_some_iff.1 hK).1; omega) (fun k e => by cases e; exact hD))

theorem seg_cur {ss : List Sl} : ∀ {us : List Nat} {pr p m : Int} (pre rest : List Nat), Seg ss pr p us m (-1) → us = pre ++ rest → cur ss p pre = match rest with
    | [] => -1
    | y :: _ => (y : Int) := by
  intro us pr p m pre rest h e
  subst e
  obtain ⟨m', q', h1, h2⟩ := (seg_append _ _ _ _ _ _ _).1 h
  have hq : cur ss p pre = q' := by
    rcases List.eq_nil_or_concat pre with rfl | ⟨r, x, rfl⟩
    · exact h1.2.symm
    · rw [List.concat_eq_append] at h1 ⊢
      rw [cur_snoc]
      obtain ⟨m2, q2, _, h4⟩ := (seg_append _ _ _ _ _ _ _).1 h1
      exact h4.2.2.2.2.symm
  rw [hq]
  cases rest with
  | nil => exact h2.2.symm
  | cons y r => exact h2.1

/-- The place of an Id among the places us; -1 where it is not. -/
def placeF (ss : List Sl) (us : List Nat) (id : Int) : Int := match us.find? (fun x => (sl ss x).id == id) with
  | some x => (x : Int)
  | none => -1

set_option maxRecDepth 100000 in
set_option maxHeartbeats 1000000 in
theorem placeOf_any (b : Nat) (id f l r c : Int) (ss : List Sl) (us : List Nat) (w : World) (h : Lk w b ss f l r c) (hin : InR ss f) {m : Int} (hseg : Seg ss (-1) f us m (-1)) (hlt : ∀ x ∈ us, x < 60) (hfew : us.length ≤ 60) :
    Calls Try.prog 46 #[.pointer (some ⟨b, 0, none⟩), .int .i64 id] w fun e w' => e = .returned (.int .i64 (placeF ss us id)) ∧ Below w.heap.size w w' := by
  obtain ⟨n0, n1, n2, n3, _⟩ := h.nums
  have hb := h.lt
  have Hh := Lib.hid h
  have Hin := Lib.hid hin
  have Hseg := Lib.hid hseg
  have Hlt := Lib.hid hlt
  clear h hin hseg hlt
  refine callsIn_wide (n := 3).1 (callsIn_of_wp_marks Try.func46 rfl trivial ?_ rfl)
  refine wpIn_wide.2 ?_
  simp only [Try.ntmps46, List.size_toArray, List.length_cons, List.length_nil, Nat.reduceAdd, Nat.reduceSub, Array.replicate_succ, Array.replicate_zero, List.push_toArray, List.append_toArray, List.nil_append, List.cons_append]
  go_wp2_with fail
  obtain ⟨W0, hW0⟩ : ∃ W0, ((w.alloc (.cells #[.pointer (some ⟨b, 0, none⟩)] 69)).alloc (.cells #[.int .i64 id] 3)).alloc (.cells #[.int .i64 0] 3) = W0 := ⟨_, rfl⟩
  rw [hW0]
  have hB0 : Below w.heap.size w W0 := by rw [← hW0]; exact (((Below.refl _ _).alloc (Nat.le_refl _) _).alloc (by simp) _).alloc (by simp; omega) _
  have q0 : W0.cell? ⟨w.heap.size, 0, none⟩ = some (.pointer (some ⟨b, 0, none⟩)) := by rw [← hW0]; simp [go_sem]
  have q1 : W0.cell? ⟨w.heap.size + 1, 0, none⟩ = some (.int .i64 id) := by rw [← hW0]; simp [go_sem]
  have q2 : W0.cell? ⟨w.heap.size + 1 + 1, 0, none⟩ = some (.int .i64 0) ∧ W0.frozen? ⟨w.heap.size + 1 + 1, 0, none⟩ = false := by rw [← hW0]; simp [go_sem]
  have hs0 : W0.heap.size = w.heap.size + 1 + 1 + 1 := by rw [← hW0]; simp
  have l0 := (Hh.out.below hB0).nums.1
  have Hs0 := Lib.hid hs0
  have HB0 := Lib.hid hB0
  clear hW0 hs0 hB0
  go_still_tail 5, (by kernel_rfl)
  change wpList _ _ _ _ _ W0.drew
  go_wp2_with fail
  refine (follow_any _ _ _).mono ?_
  rintro e w' ⟨rfl, rfl⟩
  go_wp2_with fail
  obtain ⟨W2, hW2⟩ : ∃ W2, ((W0.alloc (.cells #[.pointer (some ⟨b, 0, none⟩)] 69)).alloc (.cells #[.int .i64 f] 3)).drew = W2 := ⟨_, rfl⟩
  rw [hW2]
  have hB2 : Below W0.heap.size W0 W2 := by rw [← hW2]; exact (((Below.refl _ _).alloc (Nat.le_refl _) _).alloc (by simp) _).drew
  have p0 : W2.cell? ⟨W0.heap.size, 0, none⟩ = some (.pointer (some ⟨b, 0, none⟩)) := by rw [← hW2]; simp [go_sem]
  have p1 : W2.cell? ⟨W0.heap.size + 1, 0, none⟩ = some (.int .i64 f) := by rw [← hW2]; simp [go_sem]
  have hs2 : W2.heap.size = W0.heap.size + 1 + 1 := by rw [← hW2]; show ((W0.alloc _).alloc _).heap.size = _; simp
  have hz1 : w.heap.size + 1 + 1 < W0.heap.size := by rw [Hs0.out]; omega
  have hz2 : W0.heap.size + 1 < W2.heap.size := by rw [hs2]; omega
  clear hs2 hW2
  have q0' : W2.cell? ⟨w.heap.size, 0, none⟩ = some (.pointer (some ⟨b, 0, none⟩)) := (bcl hB2 (by omega)).trans q0
  have q1' : W2.cell? ⟨w.heap.size + 1, 0, none⟩ = some (.int .i64 id) := (bcl hB2 (by omega)).trans q1
  have q2' : W2.cell? ⟨w.heap.size + 1 + 1, 0, none⟩ = some (.int .i64 0) := (bcl hB2 (by omega)).trans q2.1
  have q3' : W2.frozen? ⟨w.heap.size + 1 + 1, 0, none⟩ = false := (bfr hB2 (by omega)).trans q2.2
  have hwB : Below w.heap.size w W2 := bel_trans HB0.out hB2
  have HL2 := Lib.hid (Hh.out.below hwB)
  refine wpIn_wide.1 (range_wide (P := Try.prog) (lb := #[.pointer (some ⟨W0.heap.size + 1, 0, none⟩), .pointer (some ⟨W0.heap.size, 0, none⟩)]) rfl (enters_of Try.func62 (by kernel_rfl) rfl) (follow1_seq (W0.heap.size + 1) W0.heap.size b ss f l r c f Hin.out) (fun _ => rfl)
    (fun pre W => (∃ rest, us = pre ++ rest ∧ ∀ x ∈ pre, (sl ss x).id ≠ id) ∧ Below W2.heap.size W2 W)
    (fun c W => c = .ret ∧ W.cell? ⟨w.heap.size + 1 + 1, 0, none⟩ = some (.int .i64 (placeF ss us id)) ∧ Below w.heap.size w W)
    (OwnFrom.and (ownFrom_pure _ _) (ownFrom_below (Nat.le_refl _) (Nat.le_refl _)))
    (fun c s X Y row hs hg hr => ⟨hs.1, cell_kept hs.2.1 hg (fun r e => (hr r e).2), hs.2.2.grown hg hs.2.2.size (fun k e => by have := (hr k e).1; omega)⟩)
    ?hR ⟨⟨us, rfl, by simp⟩, Below.refl _ _⟩
    (fun x => { tmps := #[.pointer (some ⟨b, 0, none⟩), .int .i64 id, .pointer (some ⟨w.heap.size, 0, none⟩), .pointer (some ⟨w.heap.size + 1, 0, none⟩), .pointer (some ⟨w.heap.size + 1 + 1, 0, none⟩), .int .i64 x, .pointer (some ⟨b, 0, none⟩), .pointer (some ⟨b, 0, none⟩), .pointer (some ⟨b, 0, none⟩), .pointer (some ⟨b, 240, none⟩), .int .i64 f,
      .func (.func 62) #[] #[.pointer (some ⟨W0.heap.size + 1, 0, none⟩), .pointer (some ⟨W0.heap.size, 0, none⟩)], .int .i64 x, undef, undef, undef, undef, undef, undef, undef, undef, undef, undef], defers := [] })
    ?assign ?body ?done ?stop)
  case hR =>
    rintro pre W ⟨⟨rest, hr, _⟩, hbw⟩
    have hl : pre.length ≤ us.length := by rw [hr, List.length_append]; omega
    exact ⟨(bcl hbw (by omega)).trans p1, (bcl hbw (by omega)).trans p0, HL2.out.below hbw, fun x hx => Hlt.out x (by rw [hr]; simp [hx]), by omega⟩
  case assign =>
    intro lp x W K hK
    simp only [fEnc]
    gi_wp2
    exact hK
  case body =>
    rintro lp pre x W ⟨⟨rest, hr, hno⟩, hbw⟩ ⟨hcur, hx60⟩
    have hsc := seg_cur pre rest Hseg.out hr
    rw [hcur] at hsc
    cases rest with
    | nil => exact absurd hsc (by simp)
    | cons y rest' =>
      obtain rfl : x = y := by simp at hsc; omega
      have w0 : W.cell? ⟨w.heap.size, 0, none⟩ = some (.pointer (some ⟨b, 0, none⟩)) := (bcl hbw (by omega)).trans q0'
      have w1 : W.cell? ⟨w.heap.size + 1, 0, none⟩ = some (.int .i64 id) := (bcl hbw (by omega)).trans q1'
      have w2 : W.cell? ⟨w.heap.size + 1 + 1, 0, none⟩ = some (.int .i64 0) := (bcl hbw (by omega)).trans q2'
      have w3 : W.frozen? ⟨w.heap.size + 1 + 1, 0, none⟩ = false := (bfr hbw (by omega)).trans q3'
      obtain ⟨c0, _, _, _⟩ := (HL2.out.below hbw).slot hx60
      have Hr := Lib.hid hr
      have Hno := Lib.hid hno
      have Hbw := Lib.hid hbw
      clear hr hno hbw hsc hcur q0 q1 q2 q0' q1' q2' q3' p0 p1 n0 n1 n2 n3 l0
      have hx0 : (0 : Int) ≤ (x : Int) := by omega
      have hx1 : (x : Int) < 60 := by omega
      by_cases he : (sl ss x).id = id
      · have He := Lib.hid he
        rw [he] at c0
        clear he
        gi_wp2
        have Hp : Hid (placeF ss us id = (x : Int)) := by
          show placeF ss us id = _
          unfold placeF
          have : us.find? (fun y => (sl ss y).id == id) = some x := by
            rw [Hr.out, List.find?_append]
            have hn : pre.find? (fun y => (sl ss y).id == id) = none := List.find?_eq_none.2 (fun y hy => by simpa using Hno.out y hy)
            simp [hn, He.out]
          rw [this]
        refine still_round 8 (by kernel_rfl) (by kernel_rfl) (by kernel_rfl) ?_
        simp only [List.take_succ_cons, List.take_zero, List.drop_succ_cons, List.drop_zero]
        repeat still_step
        refine wpStill_nil ?_
        gi_wp2
        exact ⟨((KeepsOthers.setCell _ _ _).trans (KeepsOthers.drew _)).from _, rfl, (World.cell?_setCell_same' _ _ _ (by rw [w2]; rfl)).trans (by rw [Hp.out]), (bset (hwB.trans (Hbw.out.mono (by omega))) (by omega) _).drew⟩
      · have hb1 : ((sl ss x).id == id) = false := beq_eq_false_iff_ne.2 he
        have He := Lib.hid he
        clear he
        generalize (sl ss x).id = sid at c0 hb1
        gi_wp2
        refine still_round 8 (by kernel_rfl) (by kernel_rfl) (by kernel_rfl) ?_
        simp only [List.take_succ_cons, List.take_zero, List.drop_succ_cons, List.drop_zero]
        repeat still_step
        refine wpStill_nil ?_
        gi_wp2
        exact ⟨(KeepsOthers.drew _).from _, ⟨rest', by rw [Hr.out]; simp, fun y hy => by
          rcases List.mem_append.1 hy with hy | hy
          · exact Hno.out y hy
          · simp at hy; subst hy; exact He.out⟩, Hbw.out.drew⟩
  case done =>
    rintro D xs W hD hS ⟨⟨rest, hr, hno⟩, hbw⟩ hK
    have hsc := seg_cur xs rest Hseg.out hr
    have w2 : W.cell? ⟨w.heap.size + 1 + 1, 0, none⟩ = some (.int .i64 0) := (bcl hbw (by omega)).trans q2'
    have w3 : W.frozen? ⟨w.heap.size + 1 + 1, 0, none⟩ = false := (bfr hbw (by omega)).trans q3'
    have Hp : Hid (placeF ss us id = -1) := by
      show placeF ss us id = _
      cases rest with
      | cons y rest' =>
        rw [show cur ss f xs = -1 from hS] at hsc
        exact absurd hsc (by simp)
      | nil =>
        rw [List.append_nil] at hr
        unfold placeF
        have : us.find? (fun y => (sl ss y).id == id) = none := List.find?_eq_none.2 (fun y hy => by rw [hr] at hy; simpa using hno y hy)
        rw [this]
    clear hsc hr hno hS
    have hK2 : (W.setCell ⟨w.heap.size + 1 + 1, 0, none⟩ (.int .i64 (-1))).heap[D]? = some (.deferred (some [])) := (KeepsOthers.setCell W ⟨w.heap.size + 1 + 1, 0, none⟩ (.int .i64 (-1))).same D _ hK rfl
    go_wp2
    refine ⟨by simp, .inl ⟨_, _, rfl, run_takeDeferred hK2, ?_⟩⟩
    have hcell := put_cell hK2 (World.cell?_setCell_same' W ⟨w.heap.size + 1 + 1, 0, none⟩ (.int .i64 (-1)) (by rw [w2]; rfl))
    exact ⟨.int .i64 (-1), by simp [results, Try.results46, go_sem, hcell], by rw [Hp.out], put_below hK2 (bset (hwB.trans (hbw.mono (by omega))) (by omega) _) (by omega)⟩
  case stop =>
    rintro D cc W hD ⟨rfl, hc, hbw⟩ hK
    refine wpIn_wide.2 ?_
    go_wp2
    refine ⟨by simp, .inl ⟨_, _, rfl, run_takeDeferred hK, ?_⟩⟩
    have hcell := put_cell hK hc
    exact ⟨.int .i64 (placeF ss us id), by simp [results, Try.results46, go_sem, hcell], rfl, put_below hK hbw (by omega)⟩
end Go.Proofs.Ytjbfmagedkmngaa.Que
