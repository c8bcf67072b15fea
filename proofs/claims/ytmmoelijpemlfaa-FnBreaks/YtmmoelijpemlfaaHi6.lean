/- PlayBreaker and OpenSpans, the reference's. -/
import Derived.Test.YtmmoelijpemlfaaHi4
import Derived.Test.YtmmoelijpemlfaaHi5
namespace Go.Proofs.Ytmmoelijpemlfaa.Bk
open Go.RowKit Go.Deep Base Rw Tick Cf

set_option maxRecDepth 100000 in
set_option maxHeartbeats 2000000 in
theorem specPlay_any (c : Nat → Int) (A : Option Addr) (n cap : Nat) (evs : List (Int × Int)) (w : World) (hn : evs.length = n) (hm : n ≤ 1048576) (h : EvI w A evs) :
    Calls Try.prog 13 #[.agg #[.int .i64 (c 0), .int .i64 (c 1), .int .i64 (c 2), .int .i64 (c 3), .int .i64 (c 4), .int .i64 (c 5), .int .i64 (c 6), .int .i64 (c 7), .int .i64 (c 8), .int .i64 (c 9), .int .i64 (c 10), .int .i64 (c 11), .int .i64 (c 12), .int .i64 (c 13)], .slice A n cap] w (PlayEnd w (playR c evs)) := by
  have Hn := Lib.hid hn
  have HE := Lib.hid h
  clear h hn
  obtain ⟨r, hr⟩ : ∃ r, playR c evs = r := ⟨_, rfl⟩
  rw [hr]
  have HR := Lib.hid hr
  clear hr
  go_enter Try.func13, Try.ntmps13
  go_wp2_with fail
  obtain ⟨W1, hW1⟩ : ∃ W1, (w.alloc (.cells #[.int .i64 (c 0), .int .i64 (c 1), .int .i64 (c 2), .int .i64 (c 3), .int .i64 (c 4), .int .i64 (c 5), .int .i64 (c 6), .int .i64 (c 7), .int .i64 (c 8), .int .i64 (c 9), .int .i64 (c 10), .int .i64 (c 11), .int .i64 (c 12), .int .i64 (c 13)] 25)).alloc (.cells #[.int .i64 0, .slice none 0 0, .int .i64 0] 31) = W1 := ⟨_, rfl⟩
  have B : Hid (Below w.heap.size w W1) := by rw [← hW1]; exact bel_two _ _ _
  have R : Hid (PB W1 (w.heap.size + 1) (.int .i64 0) (.slice none 0 0) (.int .i64 0)) := by
    rw [← hW1]
    have := heap_alloc_new (w.alloc (.cells #[.int .i64 (c 0), .int .i64 (c 1), .int .i64 (c 2), .int .i64 (c 3), .int .i64 (c 4), .int .i64 (c 5), .int .i64 (c 6), .int .i64 (c 7), .int .i64 (c 8), .int .i64 (c 9), .int .i64 (c 10), .int .i64 (c 11), .int .i64 (c 12), .int .i64 (c 13)] 25)) (.cells #[.int .i64 0, .slice none 0 0, .int .i64 0] 31)
    simp only [World.size_alloc] at this
    exact this
  have z1 := R.out.lt
  rw [hW1]
  clear hW1
  refine (specHist_any c A n cap evs W1 Hn.out hm (HE.out.below B.out)).mono ?_
  rintro e w2 ⟨b2, hor⟩
  have s12 : W1.heap.size ≤ w2.heap.size := b2.size
  replace B := Lib.hid (bel_trans B.out b2)
  replace R := Lib.hid (R.out.below b2 (by omega))
  clear b2
  rcases hor with ⟨hc, rfl⟩ | ⟨hc, v, va, rfl, B0, Wb, es, ts, hB1, hB2, hst, hhi, hB3⟩
  · obtain rfl : r = (zBr, []) := by rw [← HR.out]; exact playR_no hc
    obtain ⟨r0, r1, r2, rf⟩ := R.out.cells
    clear HR hc
    go_wp2
    refine bodyPost_ret (v := .tuple #[.agg #[.int .i64 0, .slice none 0 0, .int .i64 0], .slice none 0 0]) (by simp [results, Try.results13, go_sem, r0, r1, r2]) rfl ⟨none, 0, none, 0, w.heap.size, w.heap.size + 1, rfl, IV.nil _ _ _ _, IV.nil _ _ _ _, by omega, by omega, by simp [World.setCell]; omega, by simp [World.setCell]; omega, by omega, ?_⟩
    iterate 3 refine Below.setCell ?_ (by simp <;> omega) _
    exact B.out
  · obtain ⟨g, cp, hv, hgl, hgh, hcells⟩ := hst.at (i := n) (by rw [hhi.len, Hn.out]; omega)
    obtain ⟨y0, y1, y2⟩ := hcells n (by rw [hhi.len, Hn.out]; omega)
    have hlen : es.length = n + 1 := by rw [hhi.len, Hn.out]
    rw [hlen] at hv
    subst hv
    have hrow := hst.rows n (by omega)
    have heb := hhi.each n (by rw [Hn.out]; omega)
    have hto := hhi.told
    obtain ⟨⟨⟨s, zs, u⟩, A1, c1⟩, hen⟩ : ∃ en, es.getD n zEn = en := ⟨_, rfl⟩
    rw [hen] at y0 y1 y2 hrow heb
    dsimp only at y0 y1 y2 heb
    obtain rfl : r = (⟨s, zs, u⟩, ts) := by rw [← HR.out, playR_yes hc, hto, heb, Hn.out]
    obtain ⟨A2, c2, hva⟩ := owns_form hst.ans
    subst hva
    obtain ⟨g1, hi1, ho1, hl1⟩ := rowE_at hrow (d := w.heap.size) (by omega)
    obtain ⟨g2, hi2, ho2, hl2⟩ := owns_at hst.ans (d := w.heap.size + 1) (by omega)
    have hne : g1 ≠ g2 := by
      rcases ho1 with rfl | ⟨h1, h2⟩
      · rcases ho2 with rfl | ⟨h3, h4⟩ <;> omega
      · rcases ho2 with rfl | ⟨h3, h4⟩
        · omega
        · intro e; rw [e] at h2; exact h2 h4
    have hg1 : w.heap.size ≤ g1 ∧ g1 ≠ w.heap.size + 1 := by rcases ho1 with rfl | ⟨h1, _⟩ <;> omega
    have hg2 : w.heap.size ≤ g2 ∧ (g2 ≠ w.heap.size + 1 ∨ ts = []) := by
      rcases ho2 with rfl | ⟨h1, _⟩
      · refine ⟨by omega, .inr ?_⟩
        by_cases hp : 0 < ts.length
        · obtain ⟨gg, e1, e2, e3, _⟩ := iv_owns hst.ans hp
          obtain ⟨gg', e1', e2', e3', _⟩ := hi2 hp
          rw [e1] at e1'
          injection e1' with e1'
          injection e1' with e1'
          omega
        · exact List.eq_nil_of_length_eq_zero (by omega)
      · exact ⟨by omega, .inl (by omega)⟩
    have I1 := Lib.hid hi1
    have I2 := Lib.hid hi2
    have HG2 := Lib.hid hg2.2
    have hg2' := hg2.1
    clear hcells hrow heb hto hen hst hhi ho1 ho2 HR hc hi1 hi2 hB2 hg2
    obtain ⟨r0, r1, r2, rf⟩ := R.out.cells
    have hgne : g ≠ w.heap.size + 1 := by omega
    have hn0 : (0 : Int) ≤ (n : Int) := by omega
    have hn1 : (n : Int) < (n : Int) + 1 := by omega
    have hn2 : ((n : Int) + 1 == 0) = false := by simp; omega
    have hn3 : ¬ (n : Int) + 1 = 0 := by omega
    have hw1 : IntKind.i64.wrap ((n : Int) + 1 - 1) = (n : Int) := by rw [IntWalk.i64_in _ (by omega)]; omega
    go_wp2
    refine bodyPost_ret (v := .tuple #[.agg #[.int .i64 s, .slice A1 zs.length c1, .int .i64 u], .slice A2 ts.length c2]) (by simp [results, Try.results13, go_sem, r0, r1, r2]) rfl ⟨A1, c1, A2, c2, g1, g2, rfl, ?_, ?_, by omega, by omega, by simp [World.setCell]; omega, by simp [World.setCell]; omega, hne, ?_⟩
    · iterate 3 refine iv_set ?_ (by simp <;> omega) _
      exact I1.out
    · rcases HG2.out with hg | rfl
      · iterate 3 refine iv_set ?_ (by simp <;> omega) _
        exact I2.out
      · exact IV.nil _ _ _ _
    · iterate 3 refine Below.setCell ?_ (by simp <;> omega) _
      exact B.out

/-- Between two rounds of the reference's OpenSpans: the row of places, the history's states still there. -/
structure SpSt (w wr : World) (B g n : Nat) (c : Nat → Int) (evs : List (Int × Int)) (y : Value) (ll : List Int) : Prop where
  own : wr.ownsRow B 3 1 y ll.length (ll.map (Value.int .i64))
  cells : ∀ i, i < n + 1 → wr.cell? ⟨g, i * 3, none⟩ = some (.int .i64 (hB c evs i).state)
  ne : some g ≠ y.ownBlock
  old : Below w.heap.size w wr
  low : w.heap.size ≤ B
  le : B ≤ wr.heap.size
  lt : g < wr.heap.size
theorem SpSt.step {w wr w1 : World} {B g n : Nat} {c : Nat → Int} {evs : List (Int × Int)} {y y' : Value} {ll : List Int} {o : Obj} {x : Int} (h : SpSt w wr B g n c evs y ll) (hown : w1.ownsRow B 3 1 y' (ll.length + 1) (ll.map (Value.int .i64) ++ [.int .i64 x])) (hg : (wr.alloc o).grownBy w1 y.ownBlock) (hat : y'.ownBlock = y.ownBlock ∨ y'.ownBlock = some (wr.heap.size + 1)) : SpSt w w1 B g n c evs y' (ll ++ [x]) := by
  have hsz : wr.heap.size + 1 ≤ w1.heap.size := by have := hg.size; simpa using this
  have hlt := h.lt
  have hblk : w1.heap[g]? = wr.heap[g]? := (hg.block g (by simp; omega) h.ne).trans (Below.heap_alloc wr o g hlt)
  refine ⟨?_, fun i hi => (World.cell?_of_block hblk).trans (h.cells i hi), ?_, ?_, h.low, by have := h.le; omega, by omega⟩
  · rw [List.length_append, List.map_append]; exact hown
  · rcases hat with e | e
    · rw [e]; exact h.ne
    · rw [e]; intro e'; injection e' with e'; omega
  · exact (h.old.alloc h.old.size o).grown hg (by simp; have := h.old.size; omega) (fun j e => by have := (h.own.lt j e).1; have := h.low; omega)

set_option maxRecDepth 100000 in
set_option maxHeartbeats 2000000 in
theorem specSpans_any (c : Nat → Int) (A : Option Addr) (n cap : Nat) (evs : List (Int × Int)) (w : World) (hn : evs.length = n) (hm : n ≤ 1048576) (h : EvI w A evs) :
    Calls Try.prog 17 #[.agg #[.int .i64 (c 0), .int .i64 (c 1), .int .i64 (c 2), .int .i64 (c 3), .int .i64 (c 4), .int .i64 (c 5), .int .i64 (c 6), .int .i64 (c 7), .int .i64 (c 8), .int .i64 (c 9), .int .i64 (c 10), .int .i64 (c 11), .int .i64 (c 12), .int .i64 (c 13)], .slice A n cap] w (NewI w (spanR c evs)) := by
  have Hn := Lib.hid hn
  have HE := Lib.hid h
  clear h hn
  obtain ⟨r, hr⟩ : ∃ r, spanR c evs = r := ⟨_, rfl⟩
  rw [hr]
  have HR := Lib.hid hr
  clear hr
  go_enter Try.func17, Try.ntmps17
  go_wp2_with fail
  obtain ⟨W0, hW0⟩ : ∃ W0, w.alloc (.cells #[.int .i64 (c 0), .int .i64 (c 1), .int .i64 (c 2), .int .i64 (c 3), .int .i64 (c 4), .int .i64 (c 5), .int .i64 (c 6), .int .i64 (c 7), .int .i64 (c 8), .int .i64 (c 9), .int .i64 (c 10), .int .i64 (c 11), .int .i64 (c 12), .int .i64 (c 13)] 25) = W0 := ⟨_, rfl⟩
  have B0 : Hid (Below w.heap.size w W0) := by rw [← hW0]; exact bel_alloc _ _
  have hs0 : w.heap.size + 1 = W0.heap.size := by rw [← hW0]; simp
  have L0 := Lib.hid (ListSt.empty W0)
  rw [hW0, hs0]
  clear hW0
  obtain ⟨W1, hW1⟩ : ∃ W1, W0.alloc (.cells #[] 3) = W1 := ⟨_, rfl⟩
  have b1 : Below W0.heap.size W0 W1 := by rw [← hW1]; exact bel_alloc _ _
  rw [hW1] at L0 ⊢
  have z1 : W0.heap.size < W1.heap.size := by rw [← hW1]; simp
  clear hW1
  have B1 := Lib.hid (bel_trans B0.out b1)
  clear b1
  refine (specHist_any c A n cap evs _ Hn.out hm (HE.out.below B1.out)).mono ?_
  rintro e w2 ⟨b2, hor⟩
  have L2 := Lib.hid (L0.out.keep (by omega) b2)
  have B := Lib.hid (bel_trans B1.out b2)
  have z2 := b2.size
  clear b2
  rcases hor with ⟨hc, rfl⟩ | ⟨hc, v, va, rfl, Bh, Wb, es, ts, hB1, hB2, hst, hhi, hB3⟩
  · obtain rfl : r = [] := by rw [← HR.out]; unfold spanR; rw [if_neg (by simp [hc])]
    clear HR hc
    go_wp2
    go_loop [5, 8] (fun x i => x = .slice (some ⟨W0.heap.size, 0, none⟩) 0 0 ∧ i = .int .i64 1) (fun _ _ => 0)
    case atStart => exact ⟨rfl, rfl⟩
    case round =>
      obtain ⟨rfl, rfl⟩ := hrel
      go_wp2
      go_ret
      exact ⟨some ⟨W0.heap.size, 0, none⟩, 0, rfl, IV.nil _ _ _ _, B.out⟩
  · obtain ⟨g, cp, hv, hgl, hgh, hcells⟩ := hst.at (i := n) (by rw [hhi.len, Hn.out]; omega)
    have hlen : es.length = n + 1 := by rw [hhi.len, Hn.out]
    rw [hlen] at hv
    subst hv
    have hn3 : n ≤ 300 := by
      unfold canH at hc
      simp only [Bool.and_eq_true, decide_eq_true_eq] at hc
      have := Hn.out
      omega
    obtain rfl : spL c evs n = r := by rw [← HR.out]; unfold spanR; rw [if_pos hc, Hn.out]
    have S2 : Hid (SpSt w w2 W0.heap.size g n c evs (.slice (some ⟨W0.heap.size, 0, none⟩) 0 0) (spL c evs 0)) := by
      refine ⟨L2.out.own, fun i hi => ?_, fun e => ?_, B.out, by omega, by omega, hgh⟩
      · have := (hcells i (by omega)).1
        rw [hhi.each i (by rw [Hn.out]; omega)] at this
        exact this
      · simp [Value.ownBlock] at e
        omega
    clear hcells hst hhi HR hc hB1 hB2 hB3 L0 L2
    obtain ⟨i0, hi0, hz0, hz1, hz2⟩ := info_parts infoInt
    have Hi0 := Lib.hid hi0
    have Hz0 := Lib.hid hz0
    have Hz1 := Lib.hid hz1
    have Hz2 := Lib.hid hz2
    clear hi0 hz0 hz1 hz2
    go_wp2
    go_loopw [5, 8] (fun x i wr => ∃ (y : Value) (k : Nat), y = x ∧ k ≤ n ∧ i = .int .i64 ((k + 1 : Nat) : Int) ∧ SpSt w wr W0.heap.size g n c evs y (spL c evs k)) (fun _ i _ => n + 1 - (intOf i).toNat)
    case atStart => exact ⟨_, 0, rfl, Nat.zero_le _, rfl, S2.out⟩
    case round =>
      obtain ⟨y, k, rfl, hk, rfl, hst⟩ := hrel
      have Hst := Lib.hid hst
      clear hst
      by_cases hlt : k < n
      · have c0 := Hst.out.cells k (by omega)
        have c1 := Hst.out.cells (k + 1) (by omega)
        have hfew := spL_few c evs k
        have HY := Lib.hid (spL_yes (c := c) (evs := evs) (k := k))
        have HN := Lib.hid (spL_no (c := c) (evs := evs) (k := k))
        have HO : Hid (opn c evs k = ((hB c evs k).state != 1 && (hB c evs (k + 1)).state == 1)) := rfl
        generalize (hB c evs k).state = s0 at c0 HO
        generalize (hB c evs (k + 1)).state = s1 at c1 HO
        obtain ⟨ll, hll⟩ : ∃ ll, spL c evs k = ll := ⟨_, rfl⟩
        rw [hll] at HY HN Hst hfew
        clear hll
        obtain ⟨m, hm1⟩ : ∃ m, k + 1 = m := ⟨_, rfl⟩
        rw [hm1] at c1 ⊢
        have hw1 : IntKind.i64.wrap ((m : Int) - 1) = (k : Int) := by rw [IntWalk.i64_in _ (by omega)]; omega
        have hm5 : (m : Int) - 1 = (k : Int) := by omega
        have hk0 : (0 : Int) ≤ (k : Int) := by omega
        have hk1 : (k : Int) < (n : Int) + 1 := by omega
        have hm2 : (m : Int) < (n : Int) + 1 := by omega
        have hm3 : (0 : Int) ≤ (m : Int) := by omega
        have zr : W0.heap.size ≤ wr.heap.size := Hst.out.le
        cases ho : opn c evs k
        · have HN' := Lib.hid (HN.out ho)
          have hor : (s1 == 1) = false ∨ ((s1 == 1) = true ∧ (s0 != 1) = false) := by
            have := HO.out
            rw [ho] at this
            cases h1 : (s1 == 1)
            · exact .inl rfl
            · rw [h1] at this; exact .inr ⟨rfl, by simpa using this.symm⟩
          clear HY HN HO ho
          rcases hor with h1 | ⟨h1, h2⟩
          · go_wp2
            go_roundw
            case rel => exact ⟨_, k + 1, rfl, by omega, by rw [← hm1]; go_num, by rw [HN'.out]; exact Hst.out⟩
            case measure => simp [intOf]; omega
          · go_wp2
            go_roundw
            case rel => exact ⟨_, k + 1, rfl, by omega, by rw [← hm1]; go_num, by rw [HN'.out]; exact Hst.out⟩
            case measure => simp [intOf]; omega
        · have HY' := Lib.hid (HY.out ho)
          have hor : (s0 != 1) = true ∧ (s1 == 1) = true := by
            have := HO.out
            rw [ho] at this
            simpa using this.symm
          obtain ⟨h1, h2⟩ := hor
          clear HY HN HO ho
          go_wp2_with (at_builtin; refine wpList_append_own_at _ rfl _ _ 29 rfl W0.heap.size 3 i0 (.int .i64 0) 1 8 Try.underlying29 Hi0.out Hz0.out Hz1.out Hz2.out rfl (by decide) _ _ _ rfl (Hst.out.own.alloc _) ⟨wr.heap.size, 0, none⟩ 1 1 [.int .i64 k] rfl rfl ?c1h ?c2h ?c3h ?c4h ?c5h ?_)
          case c1h => exact new_one_at rfl _ _
          case c2h => simp [Value.oneCell']
          case c3h => unfold maxLen; omega
          case c4h => omega
          case c5h => simp; omega
          · intro v' w4 hown hg _ hat
            have hst1 := Hst.out.step hown hg (by first | exact hat | simpa using hat)
            rw [← HY'.out] at hst1
            have HQ := Lib.hid hst1
            clear hst1 hown hg hat
            go_wp2
            go_roundw
            case rel => exact ⟨_, k + 1, rfl, by omega, by rw [← hm1]; go_num, HQ.out⟩
            case measure => simp [intOf]; omega
      · obtain rfl : k = n := by omega
        obtain ⟨A', cap', rfl⟩ := owns_form Hst.out.own
        have hx : ¬ (((k + 1 : Nat) : Int)) < (k : Int) + 1 := by omega
        go_wp2
        go_ret
        exact ⟨A', cap', rfl, (iv_owns Hst.out.own).wide (by omega) (Nat.le_refl _), Hst.out.old⟩
end Go.Proofs.Ytmmoelijpemlfaa.Bk
