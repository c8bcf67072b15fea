/- What usedOk answers, and which marks it leaves. What valid answers. -/
import Derived.Test.YtpjelojmkmednaaLq5
import Derived.Shelf.RegionOpen
namespace Go.Proofs.Ytpjelojmkmednaa.Que
open Go.RowKit Go.Deep Base Rng Go.Shelf
attribute [local go_sem] Oper.semAt_some

def aheadOf (pre : List Nat) : Int := match pre.getLast? with
  | none => -1
  | some x => (x : Int)
theorem aheadOf_nil : aheadOf [] = -1 := rfl
theorem aheadOf_snoc (pre : List Nat) (x : Nat) : aheadOf (pre ++ [x]) = (x : Int) := by simp [aheadOf]

/-- What the walk over the used slots comes to. -/
def usedB (ss : List Sl) (f l c : Int) : Bool := match usedW ss 61 f (-1) [] with
  | none => false
  | some (us, a) => (a == l) && ((us.length : Int) == c)

def UsedEnd (sb : Nat) (ss : List Sl) (f l c : Int) (w : World) (e : Ending) (w' : World) : Prop :=
  e = .returned (.bool (usedB ss f l c)) ∧ Turns sb (sb + 1) w w' ∧ ∀ us a, usedW ss 61 f (-1) [] = some (us, a) → w'.rowIs sb 139 60 (fun j => .bool (decide (j ∈ us)))

/-- Between two rounds of the used walk: bb is the box of 'before', mb the map. -/
structure UsedI (sb bb mb : Nat) (W2 : World) (ss : List Sl) (f : Int) (pre : List Nat) (W : World) : Prop where
  row : W.rowIs sb 139 60 (fun j => .bool (decide (j ∈ pre)))
  bef : W.heap[bb]? = some (.cells #[.int .i64 (aheadOf pre)] 3 (0, 0))
  ids : W.heap[mb]? = some (mapObj (idsOf ss pre))
  os : W.os = W2.os
  tape : W.tape = W2.tape
  output : W.output = W2.output
  size : W2.heap.size ≤ W.heap.size
  old : ∀ k, k < W2.heap.size → k ≠ sb → k ≠ bb → k ≠ mb → W.heap[k]? = W2.heap[k]?
  nd : pre.Nodup
  lt : ∀ x ∈ pre, x < 60
  walk : usedW ss 61 f (-1) [] = usedW ss (61 - pre.length) (cur ss f pre) (aheadOf pre) pre

theorem UsedI.few {sb bb mb : Nat} {W2 : World} {ss : List Sl} {f : Int} {pre : List Nat} {W : World} (h : UsedI sb bb mb W2 ss f pre W) : pre.length ≤ 60 := nodup_le 60 _ h.nd h.lt
theorem UsedI.cell {sb bb mb : Nat} {W2 : World} {ss : List Sl} {f : Int} {pre : List Nat} {W : World} (h : UsedI sb bb mb W2 ss f pre W) {k o : Nat} (hk : k < W2.heap.size) (h1 : k ≠ sb) (h2 : k ≠ bb) (h3 : k ≠ mb) : W.cell? ⟨k, o, none⟩ = W2.cell? ⟨k, o, none⟩ :=
  World.cell?_of_block (w := W2) (h.old k hk h1 h2 h3)
theorem UsedI.froz {sb bb mb : Nat} {W2 : World} {ss : List Sl} {f : Int} {pre : List Nat} {W : World} (h : UsedI sb bb mb W2 ss f pre W) {k o : Nat} (hk : k < W2.heap.size) (h1 : k ≠ sb) (h2 : k ≠ bb) (h3 : k ≠ mb) : W.frozen? ⟨k, o, none⟩ = W2.frozen? ⟨k, o, none⟩ :=
  World.frozen?_of_block (w := W2) (h.old k hk h1 h2 h3)

theorem usedI_own {sb bb mb : Nat} {W2 : World} {ss : List Sl} {f : Int} (hb : bb < W2.heap.size) (hm : mb < W2.heap.size) (hs : sb < W2.heap.size) : OwnFrom W2.heap.size (fun pre W => UsedI sb bb mb W2 ss f pre W) := fun pre X Y row hs' hg hr => by
  have hk : ∀ k, k < W2.heap.size → Y.heap[k]? = X.heap[k]? := fun k hk => hg.block k (Nat.lt_of_lt_of_le hk hs'.size) (fun e => by have := (hr k e.symm).1; omega)
  exact ⟨hs'.row.of_block (hk sb hs), (hk bb hb).trans hs'.bef, (hk mb hm).trans hs'.ids, hg.os.trans hs'.os, hg.tape.trans hs'.tape, hg.output.trans hs'.output, Nat.le_trans hs'.size hg.size, fun k h0 h1 h2 h3 => (hk k h0).trans (hs'.old k h0 h1 h2 h3), hs'.nd, hs'.lt, hs'.walk⟩

theorem UsedI.turns {sb bb mb : Nat} {w W2 : World} {ss : List Sl} {f : Int} {pre : List Nat} {W : World} (h : UsedI sb bb mb W2 ss f pre W) (hw : Below w.heap.size w W2) (hb : w.heap.size ≤ bb) (hm : w.heap.size ≤ mb) : Turns sb (sb + 1) w W :=
  ⟨h.os.trans hw.os, h.tape.trans hw.tape, h.output.trans hw.output, Nat.le_trans hw.size h.size, fun k hk ho => (h.old k (Nat.lt_of_lt_of_le hk hw.size) (by omega) (by omega) (by omega)).trans (hw.block k hk)⟩

theorem tdrew {lo hi : Nat} {w W : World} (h : Turns lo hi w W) : Turns lo hi w W.drew := ⟨h.os, h.tape, h.output, h.size, h.block⟩

set_option maxRecDepth 100000 in
set_option maxHeartbeats 1000000 in
theorem usedOk_any (b sb : Nat) (f l r c : Int) (ss : List Sl) (w : World) (h : Lk w b ss f l r c) (hin : InR ss f) (hrow : w.rowIs sb 139 60 (fun _ => .bool false)) (hne : b ≠ sb) :
    Calls Try.prog 131 #[.pointer (some ⟨b, 0, none⟩), .pointer (some ⟨sb, 0, none⟩)] w (UsedEnd sb ss f l c w) := by
  have hb := h.lt
  have hsb := hrow.lt
  have Hh := Lib.hid h
  have Hin := Lib.hid hin
  have Hrow := Lib.hid hrow
  have Hne := Lib.hid hne
  clear h hin hrow hne
  have hmm := @run_makeMap Try.prog
  refine callsIn_wide (n := 3).1 (callsIn_of_wp_marks Try.func131 rfl trivial ?_ rfl)
  refine wpIn_wide.2 ?_
  simp only [Try.ntmps131, List.size_toArray, List.length_cons, List.length_nil, Nat.reduceAdd, Nat.reduceSub, Array.replicate_succ, Array.replicate_zero, List.push_toArray, List.append_toArray, List.nil_append, List.cons_append]
  go_wp2_with fail
  clear hmm
  obtain ⟨W0, hW0⟩ : ∃ W0, (((((w.alloc (.cells #[.pointer (some ⟨b, 0, none⟩)] 128)).alloc (.cells #[.pointer (some ⟨sb, 0, none⟩)] 141)).alloc (.cells #[.bool false] 4)).alloc (.cells #[.int .i64 (-1)] 3)).alloc (.map #[] 0)).alloc (.cells #[.map (some (w.heap.size + 1 + 1 + 1 + 1))] 123) = W0 := ⟨_, rfl⟩
  rw [hW0]
  have hB0 : Below w.heap.size w W0 := by rw [← hW0]; exact ((((((Below.refl _ _).alloc (Nat.le_refl _) _).alloc (by simp) _).alloc (by simp; omega) _).alloc (by simp; omega) _).alloc (by simp; omega) _).alloc (by simp; omega) _
  have q0 : W0.cell? ⟨w.heap.size, 0, none⟩ = some (.pointer (some ⟨b, 0, none⟩)) := by rw [← hW0]; simp [go_sem]
  have q1 : W0.cell? ⟨w.heap.size + 1, 0, none⟩ = some (.pointer (some ⟨sb, 0, none⟩)) := by rw [← hW0]; simp [go_sem]
  have q2 : W0.cell? ⟨w.heap.size + 1 + 1, 0, none⟩ = some (.bool false) ∧ W0.frozen? ⟨w.heap.size + 1 + 1, 0, none⟩ = false := by rw [← hW0]; simp [go_sem]
  have q4 : W0.heap[w.heap.size + 1 + 1 + 1]? = some (.cells #[.int .i64 (-1)] 3 (0, 0)) := by
    rw [← hW0, Below.heap_alloc _ _ _ (by simp), Below.heap_alloc _ _ _ (by simp)]
    have := heap_alloc_new (((w.alloc (.cells #[.pointer (some ⟨b, 0, none⟩)] 128)).alloc (.cells #[.pointer (some ⟨sb, 0, none⟩)] 141)).alloc (.cells #[.bool false] 4)) (.cells #[.int .i64 (-1)] 3)
    simp only [World.size_alloc] at this
    exact this
  have q5 : W0.heap[w.heap.size + 1 + 1 + 1 + 1]? = some (mapObj []) := by
    rw [← hW0, Below.heap_alloc _ _ _ (by simp)]
    have := heap_alloc_new ((((w.alloc (.cells #[.pointer (some ⟨b, 0, none⟩)] 128)).alloc (.cells #[.pointer (some ⟨sb, 0, none⟩)] 141)).alloc (.cells #[.bool false] 4)).alloc (.cells #[.int .i64 (-1)] 3)) (.map #[] 0)
    simp only [World.size_alloc] at this
    exact this
  have q6 : W0.cell? ⟨w.heap.size + 1 + 1 + 1 + 1 + 1, 0, none⟩ = some (.map (some (w.heap.size + 1 + 1 + 1 + 1))) := by rw [← hW0]; simp [go_sem]
  have hs0 : W0.heap.size = w.heap.size + 1 + 1 + 1 + 1 + 1 + 1 := by rw [← hW0]; simp
  have l0 := (Hh.out.below hB0).nums.1
  have HB0 := Lib.hid hB0
  have hz1 : w.heap.size + 1 + 1 + 1 + 1 + 1 < W0.heap.size := by rw [hs0]; omega
  have Q4 := Lib.hid q4
  have Q5 := Lib.hid q5
  clear hW0 hs0 hB0 q4 q5
  go_still_tail 5, (by kernel_rfl)
  change wpList _ _ _ _ _ W0.drew
  go_wp2_with fail
  refine (follow_any _ _ _).mono ?_
  rintro e w' ⟨rfl, rfl⟩
  go_wp2_with fail
  obtain ⟨W2, hW2⟩ : ∃ W2, ((W0.alloc (.cells #[.pointer (some ⟨b, 0, none⟩)] 128)).alloc (.cells #[.int .i64 f] 3)).drew = W2 := ⟨_, rfl⟩
  rw [hW2]
  have hB2 : Below W0.heap.size W0 W2 := by rw [← hW2]; exact (((Below.refl _ _).alloc (Nat.le_refl _) _).alloc (by simp) _).drew
  have p0 : W2.cell? ⟨W0.heap.size, 0, none⟩ = some (.pointer (some ⟨b, 0, none⟩)) := by rw [← hW2]; simp [go_sem]
  have p1 : W2.cell? ⟨W0.heap.size + 1, 0, none⟩ = some (.int .i64 f) := by rw [← hW2]; simp [go_sem]
  have hs2 : W2.heap.size = W0.heap.size + 1 + 1 := by rw [← hW2]; show ((W0.alloc _).alloc _).heap.size = _; simp
  have hz2 : W0.heap.size + 1 < W2.heap.size := by rw [hs2]; omega
  clear hs2 hW2
  have q0' : W2.cell? ⟨w.heap.size, 0, none⟩ = some (.pointer (some ⟨b, 0, none⟩)) := (bcl hB2 (by omega)).trans q0
  have q1' : W2.cell? ⟨w.heap.size + 1, 0, none⟩ = some (.pointer (some ⟨sb, 0, none⟩)) := (bcl hB2 (by omega)).trans q1
  have q2' : W2.cell? ⟨w.heap.size + 1 + 1, 0, none⟩ = some (.bool false) := (bcl hB2 (by omega)).trans q2.1
  have q3' : W2.frozen? ⟨w.heap.size + 1 + 1, 0, none⟩ = false := (bfr hB2 (by omega)).trans q2.2
  have q6' : W2.cell? ⟨w.heap.size + 1 + 1 + 1 + 1 + 1, 0, none⟩ = some (.map (some (w.heap.size + 1 + 1 + 1 + 1))) := (bcl hB2 (by omega)).trans q6
  have hwB : Below w.heap.size w W2 := bel_trans HB0.out hB2
  have HL2 := Lib.hid (Hh.out.below hwB)
  have Hrow2 := Lib.hid (Hrow.out.of_block (hwB.block sb hsb))
  have hz := hwB.size
  refine wpIn_wide.1 (range_wide (P := Try.prog) (lb := #[.pointer (some ⟨W0.heap.size + 1, 0, none⟩), .pointer (some ⟨W0.heap.size, 0, none⟩)]) rfl (enters_of Try.func125 (by kernel_rfl) rfl) (follow1_seq (W0.heap.size + 1) W0.heap.size b ss f l r c f Hin.out) (fun _ => rfl)
    (fun pre W => UsedI sb (w.heap.size + 1 + 1 + 1) (w.heap.size + 1 + 1 + 1 + 1) W2 ss f pre W)
    (fun c W => c = .ret ∧ W.cell? ⟨w.heap.size + 1 + 1, 0, none⟩ = some (.bool false) ∧ Turns sb (sb + 1) w W ∧ usedW ss 61 f (-1) [] = none)
    (usedI_own (by omega) (by omega) (by omega))
    (fun c s X Y row hs hg hr => ⟨hs.1, cell_kept hs.2.1 hg (fun r e => (hr r e).2), ⟨hg.os.trans hs.2.2.1.os, hg.tape.trans hs.2.2.1.tape, hg.output.trans hs.2.2.1.output, Nat.le_trans hs.2.2.1.size hg.size, fun k hk ho => (hg.block k (Nat.lt_of_lt_of_le hk hs.2.2.1.size) (fun e => by have := (hr k e.symm).1; omega)).trans (hs.2.2.1.block k hk ho)⟩, hs.2.2.2⟩)
    ?hR ⟨Hrow2.out.congr (fun _ _ => by simp), (hB2.block _ (by omega)).trans Q4.out, (hB2.block _ (by omega)).trans Q5.out, rfl, rfl, rfl, Nat.le_refl _, fun _ _ _ _ _ => rfl, by simp, by simp, rfl⟩
    (fun x => { tmps := #[.pointer (some ⟨b, 0, none⟩), .pointer (some ⟨sb, 0, none⟩), .pointer (some ⟨w.heap.size, 0, none⟩), .pointer (some ⟨w.heap.size + 1, 0, none⟩), .pointer (some ⟨w.heap.size + 1 + 1, 0, none⟩), .pointer (some ⟨w.heap.size + 1 + 1 + 1, 0, none⟩), .pointer (some ⟨w.heap.size + 1 + 1 + 1 + 1 + 1, 0, none⟩), .int .i64 x, undef, .map (some (w.heap.size + 1 + 1 + 1 + 1)), .pointer (some ⟨b, 0, none⟩), .pointer (some ⟨b, 0, none⟩), .pointer (some ⟨b, 0, none⟩), .pointer (some ⟨b, 240, none⟩), .int .i64 f,
      .func (.func 125) #[] #[.pointer (some ⟨W0.heap.size + 1, 0, none⟩), .pointer (some ⟨W0.heap.size, 0, none⟩)], .int .i64 x, undef, undef, undef, undef, undef, undef, undef, undef, undef, undef, undef, undef, undef, undef, undef, undef, undef, undef, undef, undef, undef, undef, undef, undef, undef, undef, undef, undef, undef, undef, undef, undef, undef, undef, undef, undef, undef, undef, undef, undef, undef, undef, undef, undef, undef, undef, undef, undef, undef, undef], defers := [] })
    ?assign ?body ?done ?stop)
  case hR =>
    rintro pre W hI
    exact ⟨(hI.cell (by omega) (by omega) (by omega) (by omega)).trans p1, (hI.cell (by omega) (by omega) (by omega) (by omega)).trans p0, HL2.out.of_block (hI.old b (by omega) Hne.out (by omega) (by omega)), hI.lt, hI.few⟩
  case assign =>
    intro lp x W K hK
    simp only [fEnc]
    gi_wp2
    exact hK
  case body =>
    rintro lp pre x W hI ⟨hcur, hx60⟩
    have w0 : W.cell? ⟨w.heap.size, 0, none⟩ = some (.pointer (some ⟨b, 0, none⟩)) := (hI.cell (by omega) (by omega) (by omega) (by omega)).trans q0'
    have w1 : W.cell? ⟨w.heap.size + 1, 0, none⟩ = some (.pointer (some ⟨sb, 0, none⟩)) := (hI.cell (by omega) (by omega) (by omega) (by omega)).trans q1'
    have w2 : W.cell? ⟨w.heap.size + 1 + 1, 0, none⟩ = some (.bool false) := (hI.cell (by omega) (by omega) (by omega) (by omega)).trans q2'
    have w3 : W.frozen? ⟨w.heap.size + 1 + 1, 0, none⟩ = false := (hI.froz (by omega) (by omega) (by omega) (by omega)).trans q3'
    have w6 : W.cell? ⟨w.heap.size + 1 + 1 + 1 + 1 + 1, 0, none⟩ = some (.map (some (w.heap.size + 1 + 1 + 1 + 1))) := (hI.cell (by omega) (by omega) (by omega) (by omega)).trans q6'
    have w4 : W.cell? ⟨w.heap.size + 1 + 1 + 1, 0, none⟩ = some (.int .i64 (aheadOf pre)) := by rw [cell_of_row _ _ 0 _ _ (0, 0) hI.bef]; rfl
    have w5 : W.frozen? ⟨w.heap.size + 1 + 1 + 1, 0, none⟩ = false := by simp [World.frozen?, hI.bef]
    obtain ⟨c0, c1, c2, c3⟩ := (HL2.out.of_block (hI.old b (by omega) Hne.out (by omega) (by omega))).slot hx60
    have hsn := hI.row.cell hx60
    have hsf : W.frozen? ⟨sb, x, none⟩ = false := hI.row.frozen x
    have hzW := hI.size
    obtain ⟨F, hF⟩ : ∃ F, 61 - pre.length = F + 1 := ⟨60 - pre.length, by have := hI.few; omega⟩
    have hwk := hI.walk
    rw [hcur, hF] at hwk
    have Hwk := Lib.hid hwk
    have HF := Lib.hid hF
    have HI := Lib.hid hI
    have Hcur := Lib.hid hcur
    clear hwk hF hI hcur q0 q1 q2 q6 q0' q1' q2' q3' q6' p0 p1 l0
    have y0 : w.heap.size < W.heap.size := by omega
    have y1 : w.heap.size + 1 < W.heap.size := by omega
    have y2 : w.heap.size + 1 + 1 < W.heap.size := by omega
    have y3 : w.heap.size + 1 + 1 + 1 < W.heap.size := by omega
    have y5 : w.heap.size + 1 + 1 + 1 + 1 + 1 < W.heap.size := by omega
    have ys : sb < W.heap.size := by omega
    have hx0 : (0 : Int) ≤ (x : Int) := by omega
    have hx1 : (x : Int) < 60 := by omega
    have HT : Hid (∀ ob, Turns sb (sb + 1) w ((W.setCell ⟨w.heap.size + 1 + 1, 0, none⟩ (.bool false)).alloc ob)) := fun ob => talloc (tset (HI.out.turns hwB (by omega) (by omega)) (by omega) _) ob
    have HC : Hid (∀ ob, ((W.setCell ⟨w.heap.size + 1 + 1, 0, none⟩ (.bool false)).alloc ob).cell? ⟨w.heap.size + 1 + 1, 0, none⟩ = some (.bool false)) := fun ob => cell_set_alloc w2 y2
    obtain ⟨s, hs⟩ : ∃ s, sl ss x = s := ⟨_, rfl⟩
    obtain ⟨id, prev, next, used⟩ := s
    have Hok := Lib.hid (okU_eq (vis := pre) (a := aheadOf pre) hs)
    rw [hs] at c0 c1 c2 c3
    have Hs := Lib.hid hs
    clear hs
    dsimp only at c0 c1 c2 c3
    have hlk := look_ids (w := W.alloc (.cells #[.int .i64 id, .int .i64 prev, .int .i64 next, .bool used] 91)) ((Below.heap_alloc W _ _ (by omega)).trans HI.out.ids) id
    have Hlk := Lib.hid hlk
    clear hlk
    generalize hah : aheadOf pre = ah at w4 Hok Hwk
    have Hah := Lib.hid hah
    clear hah
    cases used
    · have Hn := Lib.hid (Hwk.out.trans (usedW_bad hx60 (by rw [Hok.out]; rfl)))
      gi_wp2
      refine ⟨trivial, ?_⟩
      gi_wp2
      exact ⟨((KeepsOthers.setCell _ _ _).trans (KeepsOthers.alloc _ _)).from _, rfl, HC.out _, HT.out _, Hn.out⟩
    cases hid : idB id
    · have Hid1 := Lib.hid hid
      have Hn := Lib.hid (Hwk.out.trans (usedW_bad hx60 (by
        rw [Hok.out]
        have := hid
        unfold idB at this
        revert this
        cases decide (1 ≤ id) <;> cases decide (id ≤ 1000000000) <;> simp)))
      clear hid
      gi_wp2_with fail
      refine ⟨trivial, (CallsIn.inRound lp (callsIn_wide.2 (idOk_any id _))).mono ?_⟩
      rintro e w' ⟨rfl, rfl⟩
      rw [Hid1.out]
      gi_wp2
      exact ⟨((KeepsOthers.setCell _ _ _).trans (KeepsOthers.alloc _ _)).from _, rfl, HC.out _, HT.out _, Hn.out⟩
    have Hid1 := Lib.hid hid
    clear hid
    cases hco : (idsOf ss pre).contains id
    · have hlk := Hlk.out
      rw [hco] at hlk
      have Hco := Lib.hid hco
      clear hco
      by_cases hpa : prev = ah
      · subst hpa
        have hok : okU ss pre prev x = true := by
          have h1 := Hid1.out
          unfold idB at h1
          rw [Bool.and_eq_true] at h1
          rw [Hok.out, Hco.out, h1.1, h1.2]; simp
        have hnv : x ∉ pre := fun hm => by
          have h2 := Hco.out
          have h3 : (sl ss x).id ∈ idsOf ss pre := List.mem_map.2 ⟨x, hm, rfl⟩
          rw [Hs.out] at h3
          simp at h2
          exact h2 h3
        have Hn := Lib.hid (Hwk.out.trans (usedW_next hx60 hnv hok))
        have Hnv := Lib.hid hnv
        clear hok hnv
        obtain ⟨sbox, hsbox⟩ : ∃ sbox, Obj.cells #[.int .i64 id, .int .i64 prev, .int .i64 next, .bool true] 91 = sbox := ⟨_, rfl⟩
        obtain ⟨V, hV⟩ : ∃ V, ((W.setCell ⟨sb, x, none⟩ (.bool true)).alloc sbox).drew = V := ⟨_, rfl⟩
        have hVb : ∀ k, k < W.heap.size → k ≠ sb → V.heap[k]? = W.heap[k]? := fun k hk hne => by
          rw [← hV]
          show ((W.setCell ⟨sb, x, none⟩ (.bool true)).alloc sbox).heap[k]? = _
          rw [Below.heap_alloc _ _ _ (by simpa [World.setCell] using hk), Below.heap_setCell _ _ _ _ hne]
        have hids : V.heap[w.heap.size + 1 + 1 + 1 + 1]? = some (mapObj (idsOf ss pre)) := (hVb _ (by omega) (by omega)).trans HI.out.ids
        have hup := put_ids hids Hco.out
        obtain ⟨M, hM⟩ : ∃ M, V.putObj (w.heap.size + 1 + 1 + 1 + 1) (mapObj (idsOf ss pre ++ [id])) = M := ⟨_, rfl⟩
        have hMb : ∀ k, k < W.heap.size → k ≠ sb → k ≠ w.heap.size + 1 + 1 + 1 + 1 → M.heap[k]? = W.heap[k]? := fun k hk hne hnm => by
          rw [← hM]
          exact (World.putObj_heap_other hnm).trans (hVb k hk hne)
        have m4 : M.cell? ⟨w.heap.size + 1 + 1 + 1, 0, none⟩ = some (.int .i64 prev) := (World.cell?_of_block (w := W) (hMb (w.heap.size + 1 + 1 + 1) (by omega) (by omega) (by omega))).trans w4
        have m5 : M.frozen? ⟨w.heap.size + 1 + 1 + 1, 0, none⟩ = false := (World.frozen?_of_block (w := W) (hMb (w.heap.size + 1 + 1 + 1) (by omega) (by omega) (by omega))).trans w5
        rw [hM, ← hV, ← hsbox] at hup
        have HQ : Hid (KeepsFrom W2.heap.size W (M.setCell ⟨w.heap.size + 1 + 1 + 1, 0, none⟩ (.int .i64 (x : Int))) ∧ UsedI sb (w.heap.size + 1 + 1 + 1) (w.heap.size + 1 + 1 + 1 + 1) W2 ss f (pre ++ [x]) (M.setCell ⟨w.heap.size + 1 + 1 + 1, 0, none⟩ (.int .i64 (x : Int)))) := by
          have hset : ∀ k, k ≠ w.heap.size + 1 + 1 + 1 → (M.setCell ⟨w.heap.size + 1 + 1 + 1, 0, none⟩ (.int .i64 (x : Int))).heap[k]? = M.heap[k]? := fun k hk => Below.heap_setCell _ _ _ k hk
          have hsM : M.heap.size = W.heap.size + 1 := by
            rw [← hM, ← hV]
            show (World.putObj _ _ _).heap.size = _
            simp [World.putObj, World.setCell]
          have hmM : M.heap[w.heap.size + 1 + 1 + 1 + 1]? = some (mapObj (idsOf ss pre ++ [id])) := by
            rw [← hM]; exact World.putObj_heap_same (Array.getElem?_eq_some_iff.1 hids).1
          have hrM : M.rowIs sb 139 60 (fun j => .bool (decide (j ∈ pre ++ [x]))) := by
            have h1 := ((HI.out.row.set x (.bool true)).alloc sbox).congr (g := fun j => .bool (decide (j ∈ pre ++ [x]))) (fun j _ => by
              by_cases ej : j = x
              · subst ej; simp
              · rw [if_neg ej]; simp [ej])
            rw [← hM]
            refine World.rowIs.of_block (w := V) ?_ (World.putObj_heap_other (by omega))
            rw [← hV]; exact h1
          have hb4 : (M.setCell ⟨w.heap.size + 1 + 1 + 1, 0, none⟩ (.int .i64 (x : Int))).heap[w.heap.size + 1 + 1 + 1]? = some (.cells #[.int .i64 (x : Int)] 3 (0, 0)) := by
            have h0 := (hMb (w.heap.size + 1 + 1 + 1) (by omega) (by omega) (by omega)).trans HI.out.bef
            simp [World.setCell, Array.getElem?_modify, h0]
          have hos : M.os = W.os ∧ M.tape = W.tape ∧ M.output = W.output := by rw [← hM, ← hV]; exact ⟨rfl, rfl, rfl⟩
          have hsz : (M.setCell ⟨w.heap.size + 1 + 1 + 1, 0, none⟩ (.int .i64 (x : Int))).heap.size = W.heap.size + 1 := by simp [World.setCell, hsM]
          refine ⟨⟨by omega, fun k o hk ho hc => ?_⟩, ⟨?_, ?_, ?_, hos.1.trans HI.out.os, hos.2.1.trans HI.out.tape, hos.2.2.trans HI.out.output, by omega, fun k h0 h1 h2 h3 => ?_, nodup_snoc HI.out.nd Hnv.out, lt_snoc HI.out.lt hx60, ?_⟩⟩
          · have hkW : k < W.heap.size := (Array.getElem?_eq_some_iff.1 ho).1
            rw [hset k (by omega), hMb k hkW (by omega) (by omega)]; exact ho
          · exact hrM.of_block (hset sb (by omega))
          · rw [aheadOf_snoc]; exact hb4
          · rw [hset _ (by omega), hmM, idsOf_snoc, Hs.out]
          · rw [hset k h2, hMb k (by omega) h1 h3]; exact HI.out.old k h0 h1 h2 h3
          · rw [Hn.out, cur_snoc, aheadOf_snoc, Hs.out]
            have := HF.out
            rw [show 61 - (pre ++ [x]).length = F from by rw [List.length_append, List.length_singleton]; omega]
        have HSM : Hid (M.cell? ⟨w.heap.size + 1, 0, none⟩ = some (.pointer (some ⟨sb, 0, none⟩)) ∧ M.cell? ⟨w.heap.size + 1 + 1 + 1 + 1 + 1, 0, none⟩ = some (.map (some (w.heap.size + 1 + 1 + 1 + 1))) ∧ M.cell? ⟨W.heap.size, 0, none⟩ = some (.int .i64 id)) := by
          refine ⟨(World.cell?_of_block (w := W) (hMb (w.heap.size + 1) (by omega) (by omega) (by omega))).trans w1, (World.cell?_of_block (w := W) (hMb (w.heap.size + 1 + 1 + 1 + 1 + 1) (by omega) (by omega) (by omega))).trans w6, ?_⟩
          refine (World.cell?_of_block (w := V) (show M.heap[W.heap.size]? = V.heap[W.heap.size]? from by rw [← hM]; exact World.putObj_heap_other (by omega))).trans ?_
          rw [← hV, ← hsbox]
          show ((W.setCell ⟨sb, x, none⟩ (.bool true)).alloc _).cell? _ = _
          simp [go_sem]
        clear hids hVb hMb hM hV hsbox
        gi_wp2_with fail
        refine ⟨trivial, (CallsIn.inRound lp (callsIn_wide.2 (idOk_any id _))).mono ?_⟩
        rintro e w' ⟨rfl, rfl⟩
        rw [Hid1.out]
        gi_wp2
        have n5 : sb ≠ w.heap.size + 1 + 1 + 1 + 1 + 1 := by omega
        refine held_round (fun V => V.cell? ⟨w.heap.size + 1, 0, none⟩ = some (.pointer (some ⟨sb, 0, none⟩)) ∧ V.cell? ⟨w.heap.size + 1 + 1 + 1 + 1 + 1, 0, none⟩ = some (.map (some (w.heap.size + 1 + 1 + 1 + 1))) ∧ V.cell? ⟨W.heap.size, 0, none⟩ = some (.int .i64 id)) (by kernel_rfl) (by kernel_rfl) ?hlo ?_
        case hlo => rintro ⟨_, _, h⟩; exact h
        have hS0 : (fun V : World => V.cell? ⟨w.heap.size + 1, 0, none⟩ = some (.pointer (some ⟨sb, 0, none⟩)) ∧ V.cell? ⟨w.heap.size + 1 + 1 + 1 + 1 + 1, 0, none⟩ = some (.map (some (w.heap.size + 1 + 1 + 1 + 1))) ∧ V.cell? ⟨W.heap.size, 0, none⟩ = some (.int .i64 id)) (W.alloc (.cells #[.int .i64 id, .int .i64 prev, .int .i64 next, .bool true] 91)).drew := by
          refine ⟨?_, ?_, ?_⟩
          · exact (World.cell?_alloc_lt W _ ⟨w.heap.size + 1, 0, none⟩ y1).trans w1
          · exact (World.cell?_alloc_lt W _ ⟨w.heap.size + 1 + 1 + 1 + 1 + 1, 0, none⟩ y5).trans w6
          · show (W.alloc _).cell? _ = _
            simp [go_sem]
        have HS0 := Lib.hid hS0
        clear hS0
        refine wpAnyH_take (i := 0) (v := (.pointer (some ⟨sb, 0, none⟩))) rfl (by kernel_rfl) (by kernel_rfl) (by kernel_rfl) (fun _ _ _ h => h) (.inl ⟨rfl, fun V hS => ?y0⟩) HS0.out ?_
        case y0 =>
          obtain ⟨s1, s2, s3⟩ := hS
          go_simp
        go_simp
        refine wpAnyH_take (i := 1) (v := (.int .i64 (x : Int))) rfl (by kernel_rfl) (by kernel_rfl) (by kernel_rfl) (fun _ _ _ h => h) (.inl ⟨rfl, fun V hS => ?y0⟩) HS0.out ?_
        case y0 =>
          obtain ⟨s1, s2, s3⟩ := hS
          go_simp
        go_simp
        refine wpAnyH_take (i := 2) (v := (.map (some (w.heap.size + 1 + 1 + 1 + 1)))) rfl (by kernel_rfl) (by kernel_rfl) (by kernel_rfl) (fun _ _ _ h => h) (.inl ⟨rfl, fun V hS => ?y0⟩) HS0.out ?_
        case y0 =>
          obtain ⟨s1, s2, s3⟩ := hS
          go_simp
        go_simp
        refine wpAnyH_take (i := 3) (v := (.pointer (some ⟨W.heap.size, 0, none⟩))) rfl (by kernel_rfl) (by kernel_rfl) (by kernel_rfl) (fun _ _ _ h => h) (.inl ⟨rfl, fun V hS => ?y0⟩) HS0.out ?_
        case y0 =>
          obtain ⟨s1, s2, s3⟩ := hS
          go_simp
        go_simp
        refine wpAnyH_take (i := 4) (v := (.int .i64 id)) rfl (by kernel_rfl) (by kernel_rfl) (by kernel_rfl) (fun _ _ _ h => h) (.inl ⟨rfl, fun V hS => ?y0⟩) HS0.out ?_
        case y0 =>
          obtain ⟨s1, s2, s3⟩ := hS
          go_simp
        go_simp
        refine wpAnyH_take (i := 5) (v := (.pointer (some ⟨sb, 0, none⟩))) rfl (by kernel_rfl) (by kernel_rfl) (by kernel_rfl) (fun _ _ _ h => h) (.inl ⟨rfl, fun V hS => ?y0⟩) HS0.out ?_
        case y0 =>
          obtain ⟨s1, s2, s3⟩ := hS
          go_simp
        go_simp
        refine wpAnyH_take (i := 6) (v := (.pointer (some ⟨sb, x, none⟩))) rfl (by kernel_rfl) (by kernel_rfl) (by kernel_rfl) (fun _ _ _ h => h) (.inl ⟨rfl, fun V hS => ?y0⟩) HS0.out ?_
        case y0 =>
          obtain ⟨s1, s2, s3⟩ := hS
          go_simp
        go_simp
        refine wpAnyH_ready (rs := [7]) (by kernel_rfl) (by simp) (AllReadyH.cons rfl (fun K hK => ?_) AllReadyH.nil)
        go_simp
        refine hK.out _ _ ?k1 (fun _ => ?_)
        case k1 =>
          have h1 := HS0.out
          refine ⟨?_, ?_, ?_⟩
          · exact (World.cell?_alloc_lt (W.setCell ⟨sb, x, none⟩ (.bool true)) _ ⟨w.heap.size + 1, 0, none⟩ (by simpa [World.setCell] using y1)).trans ((World.cell?_setCell_far _ _ _ _ (by show sb ≠ w.heap.size + 1; omega)).trans w1)
          · exact (World.cell?_alloc_lt (W.setCell ⟨sb, x, none⟩ (.bool true)) _ ⟨w.heap.size + 1 + 1 + 1 + 1 + 1, 0, none⟩ (by simpa [World.setCell] using y5)).trans ((World.cell?_setCell_far _ _ _ _ n5).trans w6)
          · show ((W.setCell _ _).alloc _).cell? _ = _
            simp [go_sem]
        refine wpAnyH_ready (rs := [8]) (by kernel_rfl) (by simp) (AllReadyH.cons rfl (fun K hK => ?_) AllReadyH.nil)
        go_simp
        refine hK.out _ _ HSM.out (fun _ => ?_)
        refine wpAnyH_done (by kernel_rfl) ?_ _
        gi_wp2
        exact HQ.out
      · have hp1 : (prev == ah) = false := beq_eq_false_iff_ne.2 hpa
        have hp2 : (prev != ah) = true := by simp [hpa]
        have Hn := Lib.hid (Hwk.out.trans (usedW_bad hx60 (by rw [Hok.out, hp1]; simp)))
        clear hpa
        gi_wp2_with fail
        refine ⟨trivial, (CallsIn.inRound lp (callsIn_wide.2 (idOk_any id _))).mono ?_⟩
        rintro e w' ⟨rfl, rfl⟩
        rw [Hid1.out]
        gi_wp2
        exact ⟨((KeepsOthers.setCell _ _ _).trans (KeepsOthers.alloc _ _)).from _, rfl, HC.out _, HT.out _, Hn.out⟩
    · have hlk := Hlk.out
      rw [hco] at hlk
      have Hn := Lib.hid (Hwk.out.trans (usedW_bad hx60 (by rw [Hok.out, hco]; simp)))
      clear hco
      gi_wp2_with fail
      refine ⟨trivial, (CallsIn.inRound lp (callsIn_wide.2 (idOk_any id _))).mono ?_⟩
      rintro e w' ⟨rfl, rfl⟩
      rw [Hid1.out]
      gi_wp2
      exact ⟨((KeepsOthers.setCell _ _ _).trans (KeepsOthers.alloc _ _)).from _, rfl, HC.out _, HT.out _, Hn.out⟩
  case done =>
    rintro D xs W hD hS hI hK
    have w0 : W.cell? ⟨w.heap.size, 0, none⟩ = some (.pointer (some ⟨b, 0, none⟩)) := (hI.cell (by omega) (by omega) (by omega) (by omega)).trans q0'
    have w2 : W.cell? ⟨w.heap.size + 1 + 1, 0, none⟩ = some (.bool false) := (hI.cell (by omega) (by omega) (by omega) (by omega)).trans q2'
    have w3 : W.frozen? ⟨w.heap.size + 1 + 1, 0, none⟩ = false := (hI.froz (by omega) (by omega) (by omega) (by omega)).trans q3'
    have w6 : W.cell? ⟨w.heap.size + 1 + 1 + 1 + 1 + 1, 0, none⟩ = some (.map (some (w.heap.size + 1 + 1 + 1 + 1))) := (hI.cell (by omega) (by omega) (by omega) (by omega)).trans q6'
    have w4 : W.cell? ⟨w.heap.size + 1 + 1 + 1, 0, none⟩ = some (.int .i64 (aheadOf xs)) := by rw [cell_of_row _ _ 0 _ _ (0, 0) hI.bef]; rfl
    obtain ⟨n0, n1, n2, n3, _⟩ := (HL2.out.of_block (hI.old b (by omega) Hne.out (by omega) (by omega))).nums
    have hfin : usedW ss 61 f (-1) [] = some (xs, aheadOf xs) := by
      have h1 := hI.walk
      rw [show cur ss f xs = -1 from hS] at h1
      have := hI.few
      rw [show 61 - xs.length = (60 - xs.length) + 1 from by omega] at h1
      exact h1.trans usedW_nil
    have Hfin := Lib.hid hfin
    have HI := Lib.hid hI
    obtain ⟨es, hes, hml⟩ : ∃ es : Array MapEntry, es.size = xs.length ∧ W.heap[w.heap.size + 1 + 1 + 1 + 1]? = some (.map es (idsOf ss xs).length) := ⟨_, by simp [entries_len, idsOf], hI.ids⟩
    have hlen : (Builtin.len_ #[123] 3 #[.map (some (w.heap.size + 1 + 1 + 1 + 1))]).run Try.prog W.drew = .ok (.int .i64 (xs.length : Int)) W.drew := by
      rw [← hes]
      exact run_len_map (w := W.drew) _ _ _ es _ (by kernel_rfl) hml
    clear hes hml hfin hI hS q0 q1 q2 q6 q0' q1' q2' q3' q6' p0 p1 l0
    generalize hah : aheadOf xs = ah at w4 Hfin
    have Hah := Lib.hid hah
    clear hah
    by_cases hal : ah = l
    · subst hal
      go_wp2
      go_still_tail 15, (by kernel_rfl)
      change wpList _ _ _ _ _ W.drew
      have hK2 : (W.setCell ⟨w.heap.size + 1 + 1, 0, none⟩ (.bool ((xs.length : Int) == c))).drew.heap[D]? = some (.deferred (some [])) := (KeepsOthers.setCell W ⟨w.heap.size + 1 + 1, 0, none⟩ (.bool ((xs.length : Int) == c))).same D _ hK rfl
      go_wp2
      refine ⟨by simp, .inl ⟨_, _, rfl, run_takeDeferred hK2, ?_⟩⟩
      have hce : (W.setCell ⟨w.heap.size + 1 + 1, 0, none⟩ (.bool ((xs.length : Int) == c))).drew.cell? ⟨w.heap.size + 1 + 1, 0, none⟩ = some (.bool ((xs.length : Int) == c)) := World.cell?_setCell_same' W ⟨w.heap.size + 1 + 1, 0, none⟩ (.bool ((xs.length : Int) == c)) (by rw [w2]; rfl)
      have hcell := put_cell hK2 hce
      refine ⟨.bool ((xs.length : Int) == c), by simp [results, Try.results131, go_sem, hcell], by unfold usedB; rw [Hfin.out]; simp, tput (tdrew (tset (HI.out.turns hwB (by omega) (by omega)) (by omega) _)) (by omega) _, fun vs a hvs => ?_⟩
      obtain rfl : xs = vs := by rw [Hfin.out] at hvs; injection hvs with h1; injection h1
      exact (HI.out.row.setOther (by show sb ≠ w.heap.size + 1 + 1; omega) _).of_block (World.putObj_heap_other (by omega))
    · go_wp2
      go_still_tail 15, (by kernel_rfl)
      change wpList _ _ _ _ _ W.drew
      have hK2 : (W.setCell ⟨w.heap.size + 1 + 1, 0, none⟩ (.bool false)).drew.heap[D]? = some (.deferred (some [])) := (KeepsOthers.setCell W ⟨w.heap.size + 1 + 1, 0, none⟩ (.bool false)).same D _ hK rfl
      go_wp2
      refine ⟨by simp, .inl ⟨_, _, rfl, run_takeDeferred hK2, ?_⟩⟩
      have hce : (W.setCell ⟨w.heap.size + 1 + 1, 0, none⟩ (.bool false)).drew.cell? ⟨w.heap.size + 1 + 1, 0, none⟩ = some (.bool false) := World.cell?_setCell_same' W ⟨w.heap.size + 1 + 1, 0, none⟩ (.bool false) (by rw [w2]; rfl)
      have hcell := put_cell hK2 hce
      refine ⟨.bool false, by simp [results, Try.results131, go_sem, hcell], by unfold usedB; rw [Hfin.out]; simp [hal], tput (tdrew (tset (HI.out.turns hwB (by omega) (by omega)) (by omega) _)) (by omega) _, fun vs a hvs => ?_⟩
      obtain rfl : xs = vs := by rw [Hfin.out] at hvs; injection hvs with h1; injection h1
      exact (HI.out.row.setOther (by show sb ≠ w.heap.size + 1 + 1; omega) _).of_block (World.putObj_heap_other (by omega))
  case stop =>
    rintro D cc W hD ⟨rfl, hc, ht, hf⟩ hK
    have Hf := Lib.hid hf
    have Ht := Lib.hid ht
    clear hf ht
    refine wpIn_wide.2 ?_
    go_wp2
    refine ⟨by simp, .inl ⟨_, _, rfl, run_takeDeferred hK, ?_⟩⟩
    have hcell := put_cell hK hc
    exact ⟨.bool false, by simp [results, Try.results131, go_sem, hcell], by unfold usedB; rw [Hf.out], tput Ht.out (by omega) _, fun us a hvs => by rw [Hf.out] at hvs; cases hvs⟩
end Go.Proofs.Ytpjelojmkmednaa.Que

namespace Go.Proofs.Ytpjelojmkmednaa.Que
open Go.RowKit Go.Deep Base Rng Go.Shelf

theorem seg_bnd {ss : List Sl} : ∀ {l : List Nat} {pr p m : Int}, Seg ss pr p l m (-1) → (∀ x ∈ l, x < 60) → (-1 ≤ p ∧ p < 60) ∧ ∀ x ∈ l, -1 ≤ (sl ss x).next ∧ (sl ss x).next < 60
  | [], pr, p, m, h, _ => by obtain ⟨_, h⟩ := h; exact ⟨by omega, by simp⟩
  | x :: l, pr, p, m, h, hl => by
    obtain ⟨h1, _, _, h4⟩ := h
    have hx := hl x (by simp)
    obtain ⟨i1, i2⟩ := seg_bnd h4 (fun y hy => hl y (by simp [hy]))
    exact ⟨by omega, fun y hy => (List.mem_cons.1 hy).elim (fun e => by rw [e]; exact i1) (i2 y)⟩
theorem fch_bnd {ss : List Sl} : ∀ {l : List Nat} {p : Int}, FCh ss p l → (∀ x ∈ l, x < 60) → (-1 ≤ p ∧ p < 60) ∧ ∀ x ∈ l, -1 ≤ (sl ss x).next ∧ (sl ss x).next < 60
  | [], p, h, _ => by have h : p = -1 := h; exact ⟨by omega, by simp⟩
  | x :: l, p, h, hl => by
    obtain ⟨h1, _, h4⟩ := h
    have hx := hl x (by simp)
    obtain ⟨i1, i2⟩ := fch_bnd h4 (fun y hy => hl y (by simp [hy]))
    exact ⟨by omega, fun y hy => (List.mem_cons.1 hy).elim (fun e => by rw [e]; exact i1) (i2 y)⟩

theorem val_range {ss : List Sl} {f l r c : Int} {us fs : List Nat} (v : Val ss f l r c us fs) : rangeB ss f r = true := by
  obtain ⟨a1, a2⟩ := seg_bnd v.seg (fun x hx => v.lt x (by simp [hx]))
  obtain ⟨b1, b2⟩ := fch_bnd v.fch (fun x hx => v.lt x (by simp [hx]))
  unfold rangeB
  rw [Bool.and_eq_true, Bool.and_eq_true]
  refine ⟨⟨?_, lnkB_true a1.1 a1.2⟩, lnkB_true b1.1 b1.2⟩
  rw [List.all_eq_true]
  intro s hs
  obtain ⟨k, hk, rfl⟩ := List.getElem_of_mem hs
  have hk' : k < 60 := by have := v.len; omega
  have hm := mem_of_full v.nd v.lt v.full hk'
  have he : sl ss k = ss[k] := by simp [sl, hk]
  rw [← he]
  rcases List.mem_append.1 hm with h | h
  · exact lnkB_true (a2 k h).1 (a2 k h).2
  · exact lnkB_true (b2 k h).1 (b2 k h).2

theorem inr_of {ss : List Sl} {f r : Int} (hn : ss.length = 60) (h : rangeB ss f r = true) : InR ss f ∧ InR ss r := by
  unfold rangeB at h
  rw [Bool.and_eq_true, Bool.and_eq_true] at h
  obtain ⟨⟨h1, h2⟩, h3⟩ := h
  have hb : ∀ x, lnkB x = true → -1 ≤ x ∧ x ≤ 59 := fun x hx => by
    unfold lnkB at hx
    rw [Bool.and_eq_true] at hx
    have := of_decide_eq_true hx.1
    have := of_decide_eq_true hx.2
    omega
  have hs : ∀ i, i < 60 → -1 ≤ (sl ss i).next ∧ (sl ss i).next ≤ 59 := fun i hi => by
    rw [List.all_eq_true] at h1
    have hi' : i < ss.length := by omega
    have he : sl ss i = ss[i] := by simp [sl, hi']
    rw [he]
    exact hb _ (h1 _ (List.getElem_mem hi'))
  exact ⟨⟨hb f h2, hs⟩, ⟨hb r h3, hs⟩⟩

theorem okQ_noRange {ss : List Sl} {f l r c : Int} (h : rangeB ss f r = false) : okQ ss f l r c = false := by
  cases ho : okQ ss f l r c
  · rfl
  · obtain ⟨us, fs, v⟩ := ok_val ho
    rw [val_range v] at h; cases h
theorem okQ_noUsed {ss : List Sl} {f l r c : Int} (h : usedB ss f l c = false) : okQ ss f l r c = false := by
  unfold okQ
  unfold usedB at h
  split at h
  · next e => rw [e]; simp
  · next us a e =>
    rw [e]
    simp only
    have h2 : (((us.length : Int) == c) && (l == a)) = false := by
      rw [Bool.and_comm, ← h]
      congr 1
      exact Bool.beq_comm
    rw [h2]; simp
theorem usedB_some {ss : List Sl} {f l c : Int} (h : usedB ss f l c = true) : ∃ us a, usedW ss 61 f (-1) [] = some (us, a) ∧ (us.length : Int) = c ∧ l = a := by
  unfold usedB at h
  split at h
  · cases h
  · next us a e =>
    rw [Bool.and_eq_true] at h
    exact ⟨us, a, e, by simpa using h.2, by have := h.1; simp at this; exact this.symm⟩
theorem okQ_free2 {ss : List Sl} {f l r c : Int} {us : List Nat} {a : Int} (hn : ss.length = 60) (h : usedW ss 61 f (-1) [] = some (us, a)) (h1 : (us.length : Int) = c) (h2 : l = a) : okQ ss f l r c = match freeW ss 61 r us with
    | none => false
    | some vs => vs.length == 60 := by
  unfold okQ
  rw [h]
  cases hq : freeW ss 61 r us <;> simp [hn, h1, h2, hq]
theorem full_eq {vs : List Nat} (hd : vs.Nodup) (hl : ∀ x ∈ vs, x < 60) : allT 60 (fun j => decide (j ∈ vs)) = (vs.length == 60) := by
  have hle := nodup_le 60 vs hd hl
  by_cases h : vs.length = 60
  · rw [h]
    exact allT_true (fun k hk => by simpa using mem_of_full hd hl h hk)
  · have h1 : (vs.length == 60) = false := by simpa using h
    rw [h1]
    cases ha : allT 60 (fun j => decide (j ∈ vs))
    · rfl
    · exfalso
      unfold allT at ha
      rw [List.all_eq_true] at ha
      have hsub : ∀ x ∈ List.range 60, x ∈ vs := fun x hx => by simpa using ha x hx
      have := (List.nodup_range (n := 60)).length_le_of_subset hsub
      simp at this
      omega
theorem used_nd {ss : List Sl} {f a : Int} {us : List Nat} (h : usedW ss 61 f (-1) [] = some (us, a)) : us.Nodup ∧ ∀ x ∈ us, x < 60 := by
  obtain ⟨r, er, s1, s2, s3⟩ := usedW_some h
  rw [List.nil_append] at er
  subst er
  exact ⟨List.Pairwise.of_map _ (fun a b h e => h (by rw [e])) (s3 (by simp)), s2⟩
theorem free_nd {ss : List Sl} {r : Int} {us vs : List Nat} (h : freeW ss 61 r us = some vs) (h1 : us.Nodup) (h2 : ∀ x ∈ us, x < 60) : vs.Nodup ∧ ∀ x ∈ vs, x < 60 := by
  obtain ⟨q, rfl, _, s2, s3⟩ := freeW_some h
  exact ⟨s3 h1, fun x hx => by exact (List.mem_append.1 hx).elim (h2 x) (s2 x)⟩

theorem seen_new (w : World) : (w.alloc (.cells #[.bool false, .bool false, .bool false, .bool false, .bool false, .bool false, .bool false, .bool false, .bool false, .bool false, .bool false, .bool false, .bool false, .bool false, .bool false, .bool false, .bool false, .bool false, .bool false, .bool false, .bool false, .bool false, .bool false, .bool false, .bool false, .bool false, .bool false, .bool false, .bool false, .bool false, .bool false, .bool false, .bool false, .bool false, .bool false, .bool false, .bool false, .bool false, .bool false, .bool false, .bool false, .bool false, .bool false, .bool false, .bool false, .bool false, .bool false, .bool false, .bool false, .bool false, .bool false, .bool false, .bool false, .bool false, .bool false, .bool false, .bool false, .bool false, .bool false, .bool false] 139)).rowIs w.heap.size 139 60 (fun _ => .bool false) := by
  have e : (#[.bool false, .bool false, .bool false, .bool false, .bool false, .bool false, .bool false, .bool false, .bool false, .bool false, .bool false, .bool false, .bool false, .bool false, .bool false, .bool false, .bool false, .bool false, .bool false, .bool false, .bool false, .bool false, .bool false, .bool false, .bool false, .bool false, .bool false, .bool false, .bool false, .bool false, .bool false, .bool false, .bool false, .bool false, .bool false, .bool false, .bool false, .bool false, .bool false, .bool false, .bool false, .bool false, .bool false, .bool false, .bool false, .bool false, .bool false, .bool false, .bool false, .bool false, .bool false, .bool false, .bool false, .bool false, .bool false, .bool false, .bool false, .bool false, .bool false, .bool false] : Array Value) = Array.replicate 60 (.bool false) := by rfl
  rw [e]
  have h := World.rowIs_alloc w (Array.replicate 60 (.bool false)) 139 (fun _ => .bool false) (fun i hi => by simp at hi; simp [hi])
  simpa using h

theorem Turns.below_new {w W W' : World} {sb : Nat} (h : Below w.heap.size w W) (h1 : Turns sb (sb + 1) W W') (hs : w.heap.size ≤ sb) : Below w.heap.size w W' :=
  ⟨h1.os.trans h.os, h1.tape.trans h.tape, h1.output.trans h.output, Nat.le_trans h.size h1.size, fun k hk => (h1.block k (Nat.lt_of_lt_of_le hk h.size) (by omega)).trans (h.block k hk)⟩

set_option maxRecDepth 100000 in
set_option maxHeartbeats 1000000 in
theorem valid_any (b : Nat) (f l r c : Int) (ss : List Sl) (w : World) (hn : ss.length = 60) (h : Lk w b ss f l r c) :
    Calls Try.prog 114 #[.pointer (some ⟨b, 0, none⟩)] w fun e w' => e = .returned (.bool (okQ ss f l r c)) ∧ Below w.heap.size w w' := by
  have Hn := Lib.hid hn
  have HL := Lib.hid h
  have hb := h.lt
  clear h hn
  go_enter Try.func114, Try.ntmps114
  go_wp2_with fail
  obtain ⟨W0, hW0⟩ : ∃ W0, w.alloc (.cells #[.bool false, .bool false, .bool false, .bool false, .bool false, .bool false, .bool false, .bool false, .bool false, .bool false, .bool false, .bool false, .bool false, .bool false, .bool false, .bool false, .bool false, .bool false, .bool false, .bool false, .bool false, .bool false, .bool false, .bool false, .bool false, .bool false, .bool false, .bool false, .bool false, .bool false, .bool false, .bool false, .bool false, .bool false, .bool false, .bool false, .bool false, .bool false, .bool false, .bool false, .bool false, .bool false, .bool false, .bool false, .bool false, .bool false, .bool false, .bool false, .bool false, .bool false, .bool false, .bool false, .bool false, .bool false, .bool false, .bool false, .bool false, .bool false, .bool false, .bool false] 139) = W0 := ⟨_, rfl⟩
  rw [hW0]
  have hs0 := seen_new w
  rw [hW0] at hs0
  have Hs0 := Lib.hid hs0
  have HB0 : Hid (Below w.heap.size w W0) := by rw [← hW0]; exact (Below.refl _ _).alloc (Nat.le_refl _) _
  clear hs0 hW0
  refine (inRange_any b ss f l r c _ Hn.out (HL.out.below HB0.out)).mono ?_
  rintro e w1 ⟨rfl, hb1⟩
  have Hs1 := Lib.hid (Hs0.out.of_block (hb1.block _ Hs0.out.lt))
  have HB1 := Lib.hid (bel_trans HB0.out hb1)
  clear hb1
  cases hr : rangeB ss f r
  · have Ho := Lib.hid (okQ_noRange (l := l) (c := c) hr)
    clear hr
    go_wp2
    go_ret
    exact ⟨by rw [Ho.out]; rfl, HB1.out⟩
  have Hr := Lib.hid (inr_of Hn.out hr)
  clear hr
  go_wp2_with fail
  refine (usedOk_any b w.heap.size f l r c ss w1 (HL.out.below HB1.out) Hr.out.1 Hs1.out (by omega)).mono ?_
  rintro e w2 ⟨rfl, ht2, hrow2⟩
  have HB2 := Lib.hid (Turns.below_new HB1.out ht2 (Nat.le_refl _))
  have Hrow2 := Lib.hid hrow2
  clear hrow2 ht2
  cases hu : usedB ss f l c
  · have Ho := Lib.hid (okQ_noUsed (r := r) hu)
    clear hu
    go_wp2
    go_ret
    exact ⟨by rw [Ho.out]; rfl, HB2.out⟩
  obtain ⟨us, a, hus, hc, hla⟩ := usedB_some hu
  clear hu
  have Hok := Lib.hid (okQ_free2 (r := r) Hn.out hus hc hla)
  have Hnd := Lib.hid (used_nd hus)
  have Hr2 := Lib.hid (Hrow2.out us a hus)
  clear hus hc hla
  go_wp2_with fail
  refine (freeOk_any b w.heap.size f l r c ss us w2 (HL.out.below HB2.out) Hr.out.2 Hr2.out (by omega) Hnd.out.1 Hnd.out.2).mono ?_
  rintro e w3 ⟨rfl, ht3, hrow3⟩
  have HB3 := Lib.hid (Turns.below_new HB2.out ht3 (Nat.le_refl _))
  have Hrow3 := Lib.hid hrow3
  clear hrow3 ht3
  cases hf : freeW ss 61 r us
  · have Ho : Hid (okQ ss f l r c = false) := by have h := Hok.out; rw [hf] at h; exact h
    clear hf
    simp only [Option.isSome_none]
    go_wp2
    go_ret
    exact ⟨by rw [Ho.out]; rfl, HB3.out⟩
  rename_i vs
  have Ho : Hid (okQ ss f l r c = (vs.length == 60)) := by have h := Hok.out; rw [hf] at h; exact h
  have Hvn := Lib.hid (free_nd hf Hnd.out.1 Hnd.out.2)
  have hr3 := Hrow3.out vs hf
  have Hfu := Lib.hid (full_eq Hvn.out.1 Hvn.out.2)
  have HC : Hid (∀ i, i < 60 → w3.cell? ⟨w.heap.size, i, none⟩ = some (.bool (decide (i ∈ vs)))) := fun i hi => hr3.cell hi
  clear hr3 hf
  simp only [Option.isSome_some]
  go_wp2_with fail
  refine (contB_any w.heap.size 60 60 (fun j => decide (j ∈ vs)) w3 (by omega) HC.out).mono ?_
  rintro e w4 ⟨rfl, rfl⟩
  rw [Hfu.out]
  go_wp2
  go_ret
  exact ⟨by rw [Ho.out]; simp, HB3.out⟩
end Go.Proofs.Ytpjelojmkmednaa.Que
