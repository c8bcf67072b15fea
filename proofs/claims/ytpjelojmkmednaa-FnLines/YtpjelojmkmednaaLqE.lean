/- What the program's ListQueue answers. -/
import Derived.Test.YtpjelojmkmednaaLqD
import Derived.Test.YtpjelojmkmednaaLq9
namespace Go.Proofs.Ytpjelojmkmednaa.Que
open Go.RowKit Go.Deep Base Rng
attribute [local go_sem] Oper.semAt_some

/-- Between two rounds: the box of the list at ib, its row made since W2. -/
structure ListI (ib : Nat) (W2 : World) (ids : List Int) (W : World) : Prop where
  own : ∃ v, W.heap[ib]? = some (.cells #[v] 33 (0, 0)) ∧ W.ownsRow W2.heap.size 3 1 v ids.length (ids.map (Value.int .i64))
  turns : Turns ib (ib + 1) W2 W

theorem owns_cells {w : World} {base : Nat} {e : TypeId} {size n : Nat} {v : Value} {xs : List Value} (h : w.ownsRow base e size v n xs) {r : Nat} (hr : v.ownBlock = some r) {o : Obj} (ho : w.heap[r]? = some o) : o.isCells = true := by
  rcases h.2 with ⟨rfl, _⟩ | ⟨g, cap, cur, rfl, hb, hg, _⟩
  · cases hr
  · injection hr with e
    subst e
    rw [hg] at ho
    injection ho with ho
    rw [← ho]; rfl

theorem listI_own {ib : Nat} {W2 : World} {f : List Nat → List Int} (hb : ib < W2.heap.size) : OwnFrom W2.heap.size (fun pre W => ListI ib W2 (f pre) W) := fun pre X Y row hs' hg hr => by
  have hk : ∀ k, k < W2.heap.size → Y.heap[k]? = X.heap[k]? := fun k hk => hg.block k (Nat.lt_of_lt_of_le hk hs'.turns.size) (fun e => by have := (hr k e.symm).1; omega)
  obtain ⟨v, h1, h2⟩ := hs'.own
  refine ⟨⟨v, (hk ib hb).trans h1, h2.kept hg ?_⟩, ⟨hg.os.trans hs'.turns.os, hg.tape.trans hs'.turns.tape, hg.output.trans hs'.turns.output, Nat.le_trans hs'.turns.size hg.size, fun k h0 h1 => (hk k h0).trans (hs'.turns.block k h0 h1)⟩⟩
  cases hv : v.ownBlock with
  | none => exact .inl rfl
  | some r =>
    refine .inr (fun e => ?_)
    obtain ⟨_, o, ho, hc⟩ := hr r e.symm
    rw [owns_cells h2 hv ho] at hc
    cases hc

/-- One Id more. -/
theorem ListI.step {ib : Nat} {W2 W w1 : World} {ids : List Int} {x : Int} {v v' : Value} {o : Obj} (h : ListI ib W2 ids W) (hib : ib < W2.heap.size) (hv : W.heap[ib]? = some (.cells #[v] 33 (0, 0))) (hw : W.ownsRow W2.heap.size 3 1 v ids.length (ids.map (Value.int .i64)))
    (hown : w1.ownsRow W2.heap.size 3 1 v' (ids.length + 1) (ids.map (Value.int .i64) ++ [.int .i64 x])) (hg : (W.alloc o).grownBy w1 v.ownBlock) : ListI ib W2 (ids ++ [x]) (w1.setCell ⟨ib, 0, none⟩ v') := by
  have hlt : ib < W.heap.size := Nat.lt_of_lt_of_le hib h.turns.size
  have hne : ∀ k, k < W2.heap.size → some k ≠ v.ownBlock := fun k hk e => by have := (hw.lt k e.symm).1; omega
  have hk : ∀ k, k < W2.heap.size → w1.heap[k]? = W.heap[k]? := fun k hk => (hg.block k (by simp; have := h.turns.size; omega) (hne k hk)).trans (Below.heap_alloc W o k (Nat.lt_of_lt_of_le hk h.turns.size))
  refine ⟨⟨v', ?_, ?_⟩, ?_⟩
  · have h1 := (hk ib hib).trans hv
    simp [World.setCell, Array.getElem?_modify, h1]
  · have := hown.kept (Draw_grown_set w1 ib 0 v') (.inr fun e => by have := (hown.lt _ e).1; omega)
    simpa using this
  · have hs : W.heap.size ≤ w1.heap.size := by have := hg.size; simp at this; omega
    refine Turns.setCell ⟨hg.os.trans h.turns.os, hg.tape.trans h.turns.tape, hg.output.trans h.turns.output, Nat.le_trans h.turns.size hs, fun k h0 h1 => (hk k h0).trans (h.turns.block k h0 h1)⟩ (by simp) (by simp) _

set_option maxRecDepth 100000 in
set_option maxHeartbeats 1000000 in
theorem implList_any (A : Option Addr) (n cap lo hi : Nat) (ss : List Sl) (f l r c : Int) (w : World) (hn : ss.length = n) (h : SlV w lo hi A ss) (hhi : hi ≤ w.heap.size) :
    Calls Try.prog 53 #[.agg #[.slice A n cap, .int .i64 f, .int .i64 l, .int .i64 r, .int .i64 c]] w (NewI w (listA ss f l r c)) := by
  have Hn := Lib.hid hn
  have HS := Lib.hid h
  have Hhi := Lib.hid hhi
  clear h hn hhi
  refine callsIn_wide (n := 3).1 (callsIn_of_wp_marks Try.func53 rfl trivial ?_ rfl)
  refine wpIn_wide.2 ?_
  simp only [Try.ntmps53, List.size_toArray, List.length_cons, List.length_nil, Nat.reduceAdd, Nat.reduceSub, Array.replicate_succ, Array.replicate_zero, List.push_toArray, List.append_toArray, List.nil_append, List.cons_append]
  go_wp2_with fail
  have hB0 : Below w.heap.size w (w.alloc (.cells #[.slice A n cap, .int .i64 f, .int .i64 l, .int .i64 r, .int .i64 c] 26)) := bel_alloc w _
  refine (linksOf_any A n cap ss f l r c lo hi _ Hn.out (HS.out.below hB0 Hhi.out) (by have := Hhi.out; simp; omega)).mono ?_
  rintro e w1 ⟨s', f', l', r', c', rfl, heq, hb1⟩
  have B1 := Lib.hid (bel_trans hB0 hb1)
  have Heq := Lib.hid heq
  clear hb1 heq hB0
  have hsc := store_links w1 Try.zeroCells94 (lkA s' f' l' r' c') (by rw [zero_links, lkA_size]) s' f' l' r' c' rfl
  have hsz := lkA_size s' f' l' r' c'
  cases hok : okQ ss f l r c
  · have Ho := Lib.hid (listA_no hok)
    clear hok
    go_wp2_with fail
    exact ⟨.slice none 0 0, by simp [results, Try.results53, go_sem], none, 0, by rw [Ho.out]; rfl, by rw [Ho.out]; exact IV.nil _ _ _ _, bel_trans B1.out (bel_alloc _ _)⟩
  obtain ⟨us, fs, v⟩ := ok_val hok
  clear hok
  obtain ⟨rfl, rfl, rfl, rfl, rfl⟩ := Heq.out v.len
  have Hv := Lib.hid v
  have hnn := Hn.out
  rw [v.len] at hnn
  subst hnn
  have hul : us.length ≤ 60 := by have := v.full; rw [List.length_append] at this; omega
  have Hi := Lib.hid (listA_val v)
  clear v Heq
  have hL : Lk (w1.alloc (.cells (lkA s' f' l' r' c') 94)) w1.heap.size s' f' l' r' c' := heap_alloc_new w1 _
  have HL := Lib.hid hL
  have hl240 : ∀ h : 240 < (lkA s' f' l' r' c').size, (lkA s' f' l' r' c')[240]'h = .int .i64 f' := fun h => by
    have h1 := lkA_at s' f' l' r' c' (o := 240) (by omega)
    rw [Array.getElem?_eq_getElem h] at h1
    injection h1
  have H240 := Lib.hid hl240
  clear hL hl240
  generalize lkA s' f' l' r' c' = LA at hsc hsz HL H240 ⊢
  go_wp2_with fail
  simp only [H240.out]
  obtain ⟨W0, hW0⟩ : ∃ W0, (w1.alloc (.cells LA 94)).alloc (.cells #[.slice none 0 0] 33) = W0 := ⟨_, rfl⟩
  rw [hW0]
  have hB0 : Below w1.heap.size w1 W0 := by rw [← hW0]; exact ((Below.refl _ _).alloc (Nat.le_refl _) _).alloc (by simp) _
  have HL0 : Hid (Lk W0 w1.heap.size s' f' l' r' c') := by rw [← hW0]; exact HL.out.alloc _
  have HX0 : Hid (W0.heap[w1.heap.size + 1]? = some (.cells #[.slice none 0 0] 33 (0, 0))) := by
    have h := heap_alloc_new (w1.alloc (.cells LA 94)) (.cells #[.slice none 0 0] 33)
    rw [World.size_alloc, hW0] at h
    exact h
  have hs0 : W0.heap.size = w1.heap.size + 1 + 1 := by rw [← hW0]; simp
  have Hs0 := Lib.hid hs0
  have HB0 := Lib.hid hB0
  clear hW0 hs0 hB0 hsc hsz HL H240
  refine (follow_any _ _ _).mono ?_
  rintro e w' ⟨rfl, rfl⟩
  go_wp2_with fail
  obtain ⟨W2, hW2⟩ : ∃ W2, (W0.alloc (.cells #[.pointer (some ⟨w1.heap.size, 0, none⟩)] 128)).alloc (.cells #[.int .i64 f'] 3) = W2 := ⟨_, rfl⟩
  rw [hW2]
  have hB2 : Below W0.heap.size W0 W2 := by rw [← hW2]; exact ((Below.refl _ _).alloc (Nat.le_refl _) _).alloc (by simp) _
  have p0 : W2.cell? ⟨W0.heap.size, 0, none⟩ = some (.pointer (some ⟨w1.heap.size, 0, none⟩)) := by rw [← hW2]; simp [go_sem]
  have p1 : W2.cell? ⟨W0.heap.size + 1, 0, none⟩ = some (.int .i64 f') := by rw [← hW2]; simp [go_sem]
  have hs2 : W2.heap.size = W0.heap.size + 1 + 1 := by rw [← hW2]; simp
  have hz1 : w1.heap.size + 1 < W0.heap.size := by rw [Hs0.out]; omega
  have hz2 : W0.heap.size + 1 < W2.heap.size := by rw [hs2]; omega
  have hzw : w.heap.size ≤ w1.heap.size := B1.out.size
  clear hs2 hW2
  have hwB : Below w.heap.size w W2 := bel_trans B1.out (bel_trans HB0.out hB2)
  have HL2 := Lib.hid (HL0.out.below hB2)
  have HX2 : Hid (W2.heap[w1.heap.size + 1]? = some (.cells #[.slice none 0 0] 33 (0, 0))) := (hB2.block _ hz1).trans HX0.out
  refine wpIn_wide.1 (range_wide (P := Try.prog) (lb := #[.pointer (some ⟨W0.heap.size + 1, 0, none⟩), .pointer (some ⟨W0.heap.size, 0, none⟩)]) rfl (enters_of Try.func125 (by kernel_rfl) rfl) (follow1_seq (W0.heap.size + 1) W0.heap.size w1.heap.size s' f' l' r' c' f' (inr_of Hv.out.len (val_range Hv.out)).1) (fun _ => rfl)
    (fun pre W => (∃ rest, us = pre ++ rest) ∧ ListI (w1.heap.size + 1) W2 (idsOf s' pre) W)
    (fun _ _ => False)
    (OwnFrom.and (ownFrom_pure _ _) (listI_own (f := idsOf s') (by omega)))
    (fun _ _ _ _ _ hs _ _ => hs)
    ?hR ⟨⟨us, rfl⟩, ⟨⟨_, HX2.out, World.ownsRow_nil _ _ _ _⟩, Turns.of_below (Below.refl _ _)⟩⟩
    (fun x => { tmps := #[.agg #[.slice A 60 cap, .int .i64 f', .int .i64 l', .int .i64 r', .int .i64 c'], .pointer (some ⟨w.heap.size, 0, none⟩), .slice none 0 0, .pointer (some ⟨w1.heap.size, 0, none⟩), .bool true, .pointer (some ⟨w1.heap.size + 1, 0, none⟩), .int .i64 x, .tuple #[.agg LA, .bool true], .agg #[.slice A 60 cap, .int .i64 f', .int .i64 l', .int .i64 r', .int .i64 c'], .tuple #[.agg LA, .bool true], .agg LA, .bool true, .bool true, .bool false, .pointer (some ⟨w1.heap.size, 240, none⟩), .int .i64 f',
      .func (.func 125) #[] #[.pointer (some ⟨W0.heap.size + 1, 0, none⟩), .pointer (some ⟨W0.heap.size, 0, none⟩)], .int .i64 x, undef, undef, undef, undef, undef, undef, undef, undef, undef], defers := [] })
    ?assign ?body ?done ?stop)
  case hR =>
    rintro pre W ⟨⟨rest, hr⟩, hi⟩
    have hl : pre.length ≤ us.length := by rw [hr, List.length_append]; omega
    have hk : ∀ k, k < W2.heap.size → k ≠ w1.heap.size + 1 → W.heap[k]? = W2.heap[k]? := fun k h0 h1 => hi.turns.block k h0 (by omega)
    exact ⟨(World.cell?_of_block (w := W2) (hk (W0.heap.size + 1) (by omega) (by omega))).trans p1, (World.cell?_of_block (w := W2) (hk W0.heap.size (by omega) (by omega))).trans p0, HL2.out.of_block (hk w1.heap.size (by omega) (by omega)), fun x hx => Hv.out.lt x (by rw [hr]; simp [hx]), by omega⟩
  case assign =>
    intro lp x W K hK
    simp only [fEnc]
    gi_wp2
    exact hK
  case body =>
    rintro lp pre x W ⟨⟨rest, hr⟩, hi⟩ ⟨hcur, hx60⟩
    have hsc := seg_cur pre rest Hv.out.seg hr
    rw [hcur] at hsc
    cases rest with
    | nil => exact absurd hsc (by simp)
    | cons y rest' =>
      obtain rfl : x = y := by simp at hsc; omega
      obtain ⟨v, hv, hw⟩ := hi.own
      have hl : pre.length ≤ us.length := by rw [hr, List.length_append]; omega
      have c0 : W.cell? ⟨w1.heap.size, x * 4, none⟩ = some (.int .i64 (sl s' x).id) := (HL2.out.of_block (hi.turns.block _ (by omega) (by omega))).slot hx60 |>.1
      have b0 : W.cell? ⟨w1.heap.size + 1, 0, none⟩ = some v := by simp [World.cell?, hv]
      have bf : W.frozen? ⟨w1.heap.size + 1, 0, none⟩ = false := by simp [World.frozen?, hv]
      have hsz : W2.heap.size ≤ W.heap.size := hi.turns.size
      have Hr := Lib.hid hr
      have HI := Lib.hid hi
      have HV := Lib.hid hv
      have HO := Lib.hid hw
      have hib : some (w1.heap.size + 1) ≠ v.ownBlock := fun e => by have := (hw.lt _ e.symm).1; omega
      have Hib := Lib.hid hib
      clear hr hi hv hw hsc hcur p0 p1 hib
      have hx0 : (0 : Int) ≤ (x : Int) := by omega
      have hx1 : (x : Int) < 60 := by omega
      obtain ⟨i0, hi0, hz0, hz1', hz2'⟩ := info_parts infoInt
      have Hi0 := Lib.hid hi0
      have Hz0 := Lib.hid hz0
      have Hz1 := Lib.hid hz1'
      have Hz2 := Lib.hid hz2'
      clear hi0 hz0 hz1' hz2'
      generalize hsid : (sl s' x).id = sid at c0
      have Hsid := Lib.hid hsid
      clear hsid
      gi_wp2
      refine held_round (fun V => V.cell? ⟨w1.heap.size, x * 4, none⟩ = some (.int .i64 sid)) (by kernel_rfl) (by kernel_rfl) ?hlo ?_
      case hlo => rintro ⟨_, _, h⟩; exact h
      have HS0 : Hid (W.drew.cell? ⟨w1.heap.size, x * 4, none⟩ = some (.int .i64 sid)) := c0
      have HS1 : Hid (∀ o, (W.drew.alloc o).cell? ⟨w1.heap.size, x * 4, none⟩ = some (.int .i64 sid)) := fun o => Lib.cell?_alloc_some o c0
      have B1' : Hid (∀ o, (W.drew.alloc o).cell? ⟨w1.heap.size + 1, 0, none⟩ = some v) := fun o => Lib.cell?_alloc_some o b0
      refine wpAnyH_take (i := 1) (v := (.int .i64 (x : Int))) rfl (by kernel_rfl) (by kernel_rfl) (by kernel_rfl) (fun _ _ _ h => h) (.inl ⟨rfl, fun V hS => ?y0⟩) HS0.out ?_
      case y0 =>
        go_simp
      go_simp
      refine wpAnyH_take (i := 2) (v := (.pointer (some ⟨w1.heap.size, 0, none⟩))) rfl (by kernel_rfl) (by kernel_rfl) (by kernel_rfl) (fun _ _ _ h => h) (.inl ⟨rfl, fun V hS => ?y0⟩) HS0.out ?_
      case y0 =>
        go_simp
      go_simp
      refine wpAnyH_take (i := 3) (v := (.pointer (some ⟨w1.heap.size, x * 4, none⟩))) rfl (by kernel_rfl) (by kernel_rfl) (by kernel_rfl) (fun _ _ _ h => h) (.inl ⟨rfl, fun V hS => ?y0⟩) HS0.out ?_
      case y0 =>
        go_simp
      go_simp
      refine wpAnyH_take (i := 4) (v := (.pointer (some ⟨w1.heap.size, x * 4, none⟩))) rfl (by kernel_rfl) (by kernel_rfl) (by kernel_rfl) (fun _ _ _ h => h) (.inl ⟨rfl, fun V hS => ?y0⟩) HS0.out ?_
      case y0 =>
        go_simp
      go_simp
      refine wpAnyH_take (i := 5) (v := (.int .i64 sid)) rfl (by kernel_rfl) (by kernel_rfl) (by kernel_rfl) (fun _ _ _ h => h) (.inl ⟨rfl, fun V hS => ?y0⟩) HS0.out ?_
      case y0 =>
        go_simp
      go_simp
      refine wpAnyH_ready (rs := [0, 6]) (by kernel_rfl) (by simp) (AllReadyH.cons rfl (fun K hK => ?_) (AllReadyH.cons rfl (fun K hK => ?_) AllReadyH.nil))
      · go_simp
        refine hK.out _ _ HS0.out (fun _ => ?_)
        clear hK K
        refine wpAnyH_ready (rs := [6]) (by kernel_rfl) (by simp) (AllReadyH.cons rfl (fun K hK => ?_) AllReadyH.nil)
        go_simp
        refine hK.out _ _ (HS1.out _) (fun _ => ?_)
        clear hK K
        refine wpAnyH_ready (rs := [7]) (by kernel_rfl) (by simp) (AllReadyH.cons rfl (fun K hK => ?_) AllReadyH.nil)
        refine step_append_lies _ (by rfl) _ _ _ (by rfl) W2.heap.size 3 i0 _ 1 8 Try.underlying33 Hi0.out Hz0.out Hz1.out Hz2.out rfl (by omega) v (idsOf s' pre).length _ (by rfl) ((HO.out.alloc _).drew) ⟨W.heap.size, 0, none⟩ 1 1 [.int .i64 sid] (by rfl) (by rfl) (new_one_at (w := W) rfl _ _) (by simp [Value.oneCell']) (by omega) (by rw [idsOf_len]; unfold maxLen; omega) (by rw [idsOf_len]; omega) (by show W2.heap.size ≤ (W.alloc _).heap.size; simp; omega) (W.heap.size + 1) (by show (W.alloc _).heap.size = _; simp) ?_
        intro gg cap' w3 hown hgrow _ _
        have hgr : (W.alloc (.cells #[.int .i64 sid] 3)).grownBy w3 v.ownBlock := ⟨hgrow.os, hgrow.tape, hgrow.output, hgrow.size, hgrow.block⟩
        have hkeep : ∀ k, k < W2.heap.size → w3.heap[k]? = W.heap[k]? := fun k hk => (hgr.block k (by simp; omega) (fun e => by have := (HO.out.lt k e.symm).1; omega)).trans (Below.heap_alloc W _ k (by omega))
        have y0 : w3.cell? ⟨w1.heap.size + 1, 0, none⟩ = some v := (World.cell?_of_block (w := W) (hkeep (w1.heap.size + 1) (by omega))).trans b0
        have yf : w3.frozen? ⟨w1.heap.size + 1, 0, none⟩ = false := (World.frozen?_of_block (w := W) (hkeep (w1.heap.size + 1) (by omega))).trans bf
        have S3 : Hid (w3.cell? ⟨w1.heap.size, x * 4, none⟩ = some (.int .i64 sid)) := (World.cell?_of_block (w := W) (hkeep w1.heap.size (by omega))).trans c0
        have HQ := Lib.hid (HI.out.step (by omega) HV.out HO.out hown hgr)
        have HKp : Hid (KeepsOthers W (w3.setCell ⟨w1.heap.size + 1, 0, none⟩ (.slice (some ⟨gg, 0, none⟩) ((idsOf s' pre).length + 1) cap'))) := ((KeepsOthers.alloc W _).trans (KeepsOthers.of_grownBy hgr (fun j o hj ho => owns_cells (HO.out.alloc _) hj ho))).trans (KeepsOthers.setCell _ _ _)
        clear hown hgrow hgr hkeep
        refine hK.out _ _ S3.out (fun _ => ?_)
        clear hK K
        refine wpAnyH_ready (rs := [8]) (by kernel_rfl) (by simp) (AllReadyH.cons rfl (fun K hK => ?_) AllReadyH.nil)
        go_simp
        refine hK.out _ _ ((World.cell?_setCell_far _ _ _ _ (by show w1.heap.size + 1 ≠ w1.heap.size; omega)).trans S3.out) (fun _ => ?_)
        clear hK K
        refine wpAnyH_done (by kernel_rfl) ?_ _
        gi_wp2
        refine ⟨HKp.out.from _, ⟨rest', by rw [Hr.out]; simp⟩, ?_⟩
        rw [idsOf_snoc, Hsid.out]
        exact HQ.out
      · go_simp
        refine hK.out _ _ (HS1.out _) (fun _ => ?_)
        clear hK K
        refine wpAnyH_ready (rs := [0]) (by kernel_rfl) (by simp) (AllReadyH.cons rfl (fun K hK => ?_) AllReadyH.nil)
        have b1 : (W.alloc (.cells #[.int .i64 sid] 3)).drew.cell? ⟨w1.heap.size + 1, 0, none⟩ = some v := B1'.out _
        go_simp
        refine hK.out _ _ (HS1.out _) (fun _ => ?_)
        clear hK K b1
        refine wpAnyH_ready (rs := [7]) (by kernel_rfl) (by simp) (AllReadyH.cons rfl (fun K hK => ?_) AllReadyH.nil)
        refine step_append_lies _ (by rfl) _ _ _ (by rfl) W2.heap.size 3 i0 _ 1 8 Try.underlying33 Hi0.out Hz0.out Hz1.out Hz2.out rfl (by omega) v (idsOf s' pre).length _ (by rfl) ((HO.out.alloc _).drew) ⟨W.heap.size, 0, none⟩ 1 1 [.int .i64 sid] (by rfl) (by rfl) (new_one_at (w := W) rfl _ _) (by simp [Value.oneCell']) (by omega) (by rw [idsOf_len]; unfold maxLen; omega) (by rw [idsOf_len]; omega) (by show W2.heap.size ≤ (W.alloc _).heap.size; simp; omega) (W.heap.size + 1) (by show (W.alloc _).heap.size = _; simp) ?_
        intro gg cap' w3 hown hgrow _ _
        have hgr : (W.alloc (.cells #[.int .i64 sid] 3)).grownBy w3 v.ownBlock := ⟨hgrow.os, hgrow.tape, hgrow.output, hgrow.size, hgrow.block⟩
        have hkeep : ∀ k, k < W2.heap.size → w3.heap[k]? = W.heap[k]? := fun k hk => (hgr.block k (by simp; omega) (fun e => by have := (HO.out.lt k e.symm).1; omega)).trans (Below.heap_alloc W _ k (by omega))
        have y0 : w3.cell? ⟨w1.heap.size + 1, 0, none⟩ = some v := (World.cell?_of_block (w := W) (hkeep (w1.heap.size + 1) (by omega))).trans b0
        have yf : w3.frozen? ⟨w1.heap.size + 1, 0, none⟩ = false := (World.frozen?_of_block (w := W) (hkeep (w1.heap.size + 1) (by omega))).trans bf
        have S3 : Hid (w3.cell? ⟨w1.heap.size, x * 4, none⟩ = some (.int .i64 sid)) := (World.cell?_of_block (w := W) (hkeep w1.heap.size (by omega))).trans c0
        have HQ := Lib.hid (HI.out.step (by omega) HV.out HO.out hown hgr)
        have HKp : Hid (KeepsOthers W (w3.setCell ⟨w1.heap.size + 1, 0, none⟩ (.slice (some ⟨gg, 0, none⟩) ((idsOf s' pre).length + 1) cap'))) := ((KeepsOthers.alloc W _).trans (KeepsOthers.of_grownBy hgr (fun j o hj ho => owns_cells (HO.out.alloc _) hj ho))).trans (KeepsOthers.setCell _ _ _)
        clear hown hgrow hgr hkeep
        refine hK.out _ _ S3.out (fun _ => ?_)
        clear hK K
        refine wpAnyH_ready (rs := [8]) (by kernel_rfl) (by simp) (AllReadyH.cons rfl (fun K hK => ?_) AllReadyH.nil)
        go_simp
        refine hK.out _ _ ((World.cell?_setCell_far _ _ _ _ (by show w1.heap.size + 1 ≠ w1.heap.size; omega)).trans S3.out) (fun _ => ?_)
        clear hK K
        refine wpAnyH_done (by kernel_rfl) ?_ _
        gi_wp2
        refine ⟨HKp.out.from _, ⟨rest', by rw [Hr.out]; simp⟩, ?_⟩
        rw [idsOf_snoc, Hsid.out]
        exact HQ.out
  case done =>
    rintro D xs W hD hS ⟨⟨rest, hr⟩, hi⟩ hK
    have hsc := seg_cur xs rest Hv.out.seg hr
    have hrest : rest = [] := by
      cases rest with
      | nil => rfl
      | cons y rest' =>
        rw [show cur s' f' xs = -1 from hS] at hsc
        exact absurd hsc (by simp)
    subst hrest
    rw [List.append_nil] at hr
    obtain ⟨v, hv, hw⟩ := hi.own
    obtain ⟨A', cap', rfl⟩ := owns_form hw
    have b0 : W.cell? ⟨w1.heap.size + 1, 0, none⟩ = some (.slice A' (idsOf s' xs).length cap') := by simp [World.cell?, hv]
    have HO := Lib.hid hw
    have HT := Lib.hid hi.turns
    have Hr := Lib.hid hr
    have hK2 := Lib.hid hK
    clear hsc hr hS hv hw hi hK
    go_wp2
    refine ⟨by simp, .inl ⟨_, _, rfl, run_takeDeferred hK2.out, ?_⟩⟩
    refine ⟨.slice A' (idsOf s' xs).length cap', by simp [results, Try.results53, go_sem], A', cap', by rw [Hi.out, Hr.out], ?_, ?_⟩
    · rw [Hi.out, Hr.out]
      intro hp
      obtain ⟨g, e, hb, hlt, hri⟩ := iv_owns HO.out hp
      have hgD : g ≠ D := fun e1 => by
        subst e1
        obtain ⟨h2, _⟩ := hri 0 hp
        rw [show W.cell? ⟨g, 0, none⟩ = none from by simp [World.cell?, hK2.out]] at h2
        cases h2
      exact ⟨g, e, by omega, by simp [World.putObj]; omega, hri.of_block (World.putObj_heap_other hgD)⟩
    · exact put_below hK2.out (hwB.trans (HT.out.below (by omega) (by omega))) (by omega)
  case stop =>
    rintro D cc W hD hc hK
    exact absurd hc (fun h => h)

theorem listA_few (ss : List Sl) (f l r c : Int) : (listA ss f l r c).length ≤ 60 := by
  cases hok : okQ ss f l r c
  · rw [listA_no hok]; simp
  · obtain ⟨us, fs, v⟩ := ok_val hok
    rw [listA_val v, idsOf_len]
    have := v.full
    rw [List.length_append] at this
    omega
end Go.Proofs.Ytpjelojmkmednaa.Que
