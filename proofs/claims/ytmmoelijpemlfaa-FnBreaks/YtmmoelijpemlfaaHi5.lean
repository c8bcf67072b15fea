/- The reference's history of a breaker. -/
import Derived.Test.YtmmoelijpemlfaaHi3
import Derived.Test.YtmmoelijpemlfaaBcD
namespace Go.Proofs.Ytmmoelijpemlfaa.Bk
open Go.RowKit Go.Deep Base Rw Tick Cf

set_option maxRecDepth 100000 in
set_option maxHeartbeats 8000000 in
theorem specHist_any (c : Nat → Int) (A : Option Addr) (n cap : Nat) (evs : List (Int × Int)) (w : World) (hn : evs.length = n) (hm : n ≤ 1048576) (h : EvI w A evs) :
    Calls Try.prog 47 #[.agg #[.int .i64 (c 0), .int .i64 (c 1), .int .i64 (c 2), .int .i64 (c 3), .int .i64 (c 4), .int .i64 (c 5), .int .i64 (c 6), .int .i64 (c 7), .int .i64 (c 8), .int .i64 (c 9), .int .i64 (c 10), .int .i64 (c 11), .int .i64 (c 12), .int .i64 (c 13)], .slice A n cap] w fun e w' => Below w.heap.size w w' ∧ ((canH c evs = false ∧ e = .returned (.tuple #[.slice none 0 0, .slice none 0 0])) ∨ (canH c evs = true ∧ ∃ v va, e = .returned (.tuple #[v, va]) ∧ HistEnd w c evs v va w')) := by
  have Hn := Lib.hid hn
  have HE := Lib.hid h
  clear h hn
  go_enter Try.func47, Try.ntmps47
  go_wp2_with fail
  obtain ⟨W0, hW0⟩ : ∃ W0, w.alloc (.cells #[.int .i64 (c 0), .int .i64 (c 1), .int .i64 (c 2), .int .i64 (c 3), .int .i64 (c 4), .int .i64 (c 5), .int .i64 (c 6), .int .i64 (c 7), .int .i64 (c 8), .int .i64 (c 9), .int .i64 (c 10), .int .i64 (c 11), .int .i64 (c 12), .int .i64 (c 13)] 25) = W0 := ⟨_, rfl⟩
  have B : Hid (Below w.heap.size w W0) := by rw [← hW0]; exact bel_alloc _ _
  have z0 : w.heap.size < W0.heap.size := by rw [← hW0]; simp
  have K : Hid (W0.heap[w.heap.size]? = some (.cells #[.int .i64 (c 0), .int .i64 (c 1), .int .i64 (c 2), .int .i64 (c 3), .int .i64 (c 4), .int .i64 (c 5), .int .i64 (c 6), .int .i64 (c 7), .int .i64 (c 8), .int .i64 (c 9), .int .i64 (c 10), .int .i64 (c 11), .int .i64 (c 12), .int .i64 (c 13)] 25 (0, 0))) := by rw [← hW0]; exact heap_alloc_new w _
  rw [hW0]
  clear hW0
  refine (specConfigOk_any c _).mono ?_
  rintro e w1 ⟨rfl, b1⟩
  replace B := Lib.hid (bel_trans B.out b1)
  replace K := Lib.hid ((b1.block _ z0).trans K.out)
  have z1 : w.heap.size < w1.heap.size := Nat.lt_of_lt_of_le z0 b1.size
  clear b1 z0
  cases hok : okC c
  · have Hc : Hid (canH c evs = false) := by show _ = _; unfold canH; rw [hok]; rfl
    clear hok
    go_wp2
    exact bodyPost_ret (v := .tuple #[.slice none 0 0, .slice none 0 0]) (by simp [results, Try.results47, go_sem]) rfl ⟨B.out, .inl ⟨Hc.out, rfl⟩⟩
  by_cases hl : 300 < n
  · have Hc : Hid (canH c evs = false) := by show _ = _; unfold canH; rw [Hn.out, decide_eq_false (by omega)]; simp
    clear hok
    go_wp2
    exact bodyPost_ret (v := .tuple #[.slice none 0 0, .slice none 0 0]) (by simp [results, Try.results47, go_sem]) rfl ⟨B.out, .inl ⟨Hc.out, rfl⟩⟩
  have Hc : Hid (canH c evs = true) := by show _ = _; unfold canH; rw [hok, Hn.out, decide_eq_true (by omega)]; rfl
  clear hok
  have hl3 : ¬ (300 : Int) < (n : Int) := by omega
  obtain ⟨i0, hi0, hz0, hz1, hz2⟩ := info_parts infoInt
  have Hi0 := Lib.hid hi0
  have Hz0 := Lib.hid hz0
  have Hz1 := Lib.hid hz1
  have Hz2 := Lib.hid hz2
  clear hi0 hz0 hz1 hz2
  obtain ⟨j0, hi0, hz0, hz1, hz2⟩ := info_parts infoBreaker
  have Hj0 := Lib.hid hi0
  have Hy0 := Lib.hid hz0
  have Hy1 := Lib.hid hz1
  have Hy2 := Lib.hid hz2
  clear hi0 hz0 hz1 hz2
  go_wp2
  go_loopw [6, 7, 8] (fun x y i wr => ∃ (v va : Value) (k : Nat) (es : List En) (ts : List Int), v = x ∧ va = y ∧ k ≤ n ∧ i = .int .i64 k ∧ HSt w1.heap.size w1 wr v va es ts ∧ Hist c evs k es ts) (fun _ _ i _ => n - (intOf i).toNat)
  case atStart => exact ⟨_, _, 0, [zEn], [], rfl, rfl, Nat.zero_le _, rfl, HSt.first2 w1, Hist.zero c evs⟩
  case round =>
    obtain ⟨v, va, k, es, ts, rfl, rfl, hk, rfl, hst, hhi⟩ := hrel
    have Hst := Lib.hid hst
    have Hhi := Lib.hid hhi
    clear hst hhi
    have HB := Lib.hid (bel_trans B.out Hst.out.old)
    have zr : w1.heap.size ≤ wr.heap.size := Hst.out.old.size
    by_cases hlt : k < n
    · obtain ⟨ge, off, rfl, hc⟩ := HE.out.below HB.out (by have := Hn.out; omega)
      obtain ⟨c0, c1⟩ := hc k (by have := Hn.out; omega)
      clear hc
      obtain ⟨⟨kd, now⟩, hev⟩ : ∃ ev, evs.getD k (0, 0) = ev := ⟨_, rfl⟩
      rw [hev] at c0 c1
      dsimp only at c0 c1
      have Hev := Lib.hid hev
      clear hev
      obtain ⟨g, cp, hv, hgl, hgh, hcells⟩ := Hst.out.at (i := k) (by rw [Hhi.out.len]; omega)
      obtain ⟨y0, y1, y2⟩ := hcells k (by rw [Hhi.out.len]; omega)
      clear hcells
      have hlen : es.length = k + 1 := Hhi.out.len
      rw [hlen] at hv
      subst hv
      have hrow := Hst.out.rows k (by omega)
      obtain ⟨⟨⟨s, zs, u⟩, A2, c2⟩, hen⟩ : ∃ en, es.getD k zEn = en := ⟨_, rfl⟩
      rw [hen] at y0 y1 y2 hrow
      dsimp only at y0 y1 y2
      have hbr : (⟨s, zs, u⟩ : Br) = hB c evs k := by have := Hhi.out.each k (Nat.le_refl _); rw [hen] at this; exact this
      have hzl : zs.length ≤ 20 := by
        have h1 := run_ok (c := c) (evs.take k) zBr_ok
        have h2 : OkB (hB c evs k) := h1
        rw [← hbr] at h2
        exact h2.few
      have Hbr := Lib.hid hbr
      have Hrow := Lib.hid hrow
      clear hen hrow hbr
      have htl : ts.length = k := by have := Hhi.out.told; rw [this]; exact hT_len (by have := Hn.out; omega)
      have hk0 : (0 : Int) ≤ (k : Int) := by omega
      have hk1 : (k : Int) < (k : Int) + 1 := by omega
      have hk2 : (k : Int) < (n : Int) := by omega
      have Y0 := Lib.hid y0
      have Y1 := Lib.hid y1
      have Y2 := Lib.hid y2
      have C0 := Lib.hid c0
      have C1 := Lib.hid c1
      have KA : Hid (wr.heap[w.heap.size]? = some (.cells #[.int .i64 (c 0), .int .i64 (c 1), .int .i64 (c 2), .int .i64 (c 3), .int .i64 (c 4), .int .i64 (c 5), .int .i64 (c 6), .int .i64 (c 7), .int .i64 (c 8), .int .i64 (c 9), .int .i64 (c 10), .int .i64 (c 11), .int .i64 (c 12), .int .i64 (c 13)] 25 (0, 0))) := (Hst.out.old.block _ z1).trans K.out
      have HVL : Hid (∀ x, (Value.slice (some ⟨g, 0, none⟩) (k + 1) cp).ownBlock = some x → x < wr.heap.size) := fun x hx => (Hst.out.own.lt x hx).2
      have HVA : Hid (∀ x, va.ownBlock = some x → x < wr.heap.size) := fun x hx => (Hst.out.ans.lt x hx).2
      obtain ⟨r, hr⟩ : ∃ r, stepR c ⟨s, zs, u⟩ (kd, now) = r := ⟨_, rfl⟩
      have Hr0 := Lib.hid hr
      have Hr : Hid (stepR c (hB c evs k) (evs.getD k (0, 0)) = r) := by show _ = _; rw [← Hbr.out, Hev.out]; exact hr
      clear hr
      have hgk : ge < wr.heap.size := World.block_lt_of_cell? _ _ c0
      by_cases h0 : kd = 0
      · subst h0
        obtain ⟨q, hq⟩ : ∃ q, dialR ⟨s, zs, u⟩ now = q := ⟨_, rfl⟩
        have hst : r = (q.1, if q.2 = true then 1 else 0) := by rw [← Hr0.out, ← hq]; rfl
        have HC : Hid (∀ V, Below wr.heap.size wr V → Calls Try.prog 28 #[.agg #[.int .i64 s, .slice A2 zs.length c2, .int .i64 u], .int .i64 now] V (BrEnd V q)) := fun V hV => by
          have := specOnDial_any A2 zs.length c2 s u now zs V rfl (by omega) (Hrow.out.iv.ints.below hV)
          rw [hq] at this
          exact this
        have HRQ := Lib.hid hst
        have HIN : Hid (inB 0 0 2 = true) := by show _ = _; decide
        clear hq hst
        go_wp2_with fail
        obtain ⟨Wa, hWa⟩ : ∃ Wa, wr.alloc (.cells #[.int .i64 s, .slice A2 zs.length c2, .int .i64 u] 31) = Wa := ⟨_, rfl⟩
        have ba : Below wr.heap.size wr Wa := by rw [← hWa]; exact bel_alloc _ _
        have PX : Hid (PB Wa wr.heap.size (.int .i64 s) (.slice A2 zs.length c2) (.int .i64 u)) := by rw [← hWa]; exact heap_alloc_new wr _
        have za : wr.heap.size < Wa.heap.size := PX.out.lt
        rw [hWa]
        clear hWa c0 c1 y0 y1 y2
        have HS : Hid (Below wr.heap.size wr Wa.drew) := ba.drew
        refine wp_region_held_drew (S := Below wr.heap.size wr) (by kernel_rfl) HS.out (fun _ => ?_)
        obtain ⟨v0, hv0⟩ : ∃ W', Wa.drew = W' := ⟨_, rfl⟩
        have zz0 : wr.heap.size < v0.heap.size := by rw [← hv0]; exact za
        replace PX : Hid (PB v0 wr.heap.size (.int .i64 s) (.slice A2 zs.length c2) (.int .i64 u)) := by rw [← hv0]; exact PX.out
        rw [hv0] at HS ⊢
        clear hv0 ba za
        refine wpAnyH_take (i := 0) (v := (.slice (some ⟨g, 0, none⟩) (k + 1) cp)) rfl (by kernel_rfl) (by kernel_rfl) (by kernel_rfl) (fun _ _ _ h => h) (.inl ⟨rfl, fun V hS => ?y0⟩) HS.out ?_
        case y0 =>
          clear hS
          go_simp
        go_simp
        refine wpAnyH_take (i := 1) (v := (.int .i64 k)) rfl (by kernel_rfl) (by kernel_rfl) (by kernel_rfl) (fun _ _ _ h => h) (.inl ⟨rfl, fun V hS => ?y0⟩) HS.out ?_
        case y0 =>
          clear hS
          go_simp
        go_simp
        refine wpAnyH_take (i := 2) (v := (.pointer (some ⟨g, k * 3, none⟩))) rfl (by kernel_rfl) (by kernel_rfl) (by kernel_rfl) (fun _ _ _ h => h) (.inl ⟨rfl, fun V hS => ?y0⟩) HS.out ?_
        case y0 =>
          clear hS
          go_simp
        go_simp
        refine wpAnyH_take (i := 3) (v := .agg #[.int .i64 s, .slice A2 zs.length c2, .int .i64 u]) rfl (by kernel_rfl) (by kernel_rfl) (by kernel_rfl) (fun _ _ _ h => h) (.inl ⟨rfl, fun V hS => ?y1⟩) HS.out ?_
        case y1 =>
          have q0 := bkeep Y0.out hS
          have q1 := bkeep Y1.out hS
          have q2 := bkeep Y2.out hS
          clear hS
          go_simp
        go_simp
        refine wpAnyH_take (i := 4) (v := (.slice (some ⟨ge, off, none⟩) n cap)) rfl (by kernel_rfl) (by kernel_rfl) (by kernel_rfl) (fun _ _ _ h => h) (.inl ⟨rfl, fun V hS => ?y0⟩) HS.out ?_
        case y0 =>
          clear hS
          go_simp
        go_simp
        refine wpAnyH_take (i := 5) (v := (.int .i64 k)) rfl (by kernel_rfl) (by kernel_rfl) (by kernel_rfl) (fun _ _ _ h => h) (.inl ⟨rfl, fun V hS => ?y0⟩) HS.out ?_
        case y0 =>
          clear hS
          go_simp
        go_simp
        refine wpAnyH_take (i := 6) (v := (.pointer (some ⟨ge, off + k * 2, none⟩))) rfl (by kernel_rfl) (by kernel_rfl) (by kernel_rfl) (fun _ _ _ h => h) (.inl ⟨rfl, fun V hS => ?y0⟩) HS.out ?_
        case y0 =>
          clear hS
          go_simp
        go_simp
        refine wpAnyH_take (i := 7) (v := (.pointer (some ⟨ge, off + k * 2 + 1, none⟩))) rfl (by kernel_rfl) (by kernel_rfl) (by kernel_rfl) (fun _ _ _ h => h) (.inl ⟨rfl, fun V hS => ?y0⟩) HS.out ?_
        case y0 =>
          clear hS
          go_simp
        go_simp
        refine wpAnyH_take (i := 8) (v := .int .i64 now) rfl (by kernel_rfl) (by kernel_rfl) (by kernel_rfl) (fun _ _ _ h => h) (.inl ⟨rfl, fun V hS => ?y2⟩) HS.out ?_
        case y2 =>
          have q1 := bkeep C1.out hS
          clear hS
          go_simp
        go_simp
        refine wpAnyH_ready (rs := [9]) (by kernel_rfl) (by simp) (AllReadyH.cons rfl (fun J hJ => ?_) AllReadyH.nil)
        go_simp
        refine (HC.out _ HS.out).mono ?_
        rintro e v2 ⟨A', c', rfl, v3, b3⟩
        have zz2 : (v0).heap.size ≤ v2.heap.size := b3.size
        have hrn := rowE_new (r := (q.1, (0 : Int))) (Wa := wr) (A3 := A') (c3 := c') zr Hrow.out HVL.out HVA.out HS.out b3 (.inl v3)
        have RW0 := Lib.hid hrn.1
        have RN := Lib.hid hrn.2
        replace PX := Lib.hid (PX.out.below b3 (by omega))
        replace HS := Lib.hid (HS.out.trans (b3.mono (by omega)))
        clear hrn v3 b3
        obtain ⟨⟨s', zs', u'⟩, bb⟩ := q
        dsimp only at RW0 RN ⊢
        refine hJ.out _ _ HS.out (fun _ => ?_)
        clear hJ J
        go_simp
        refine wpAnyH_take (i := 10) (v := (.tuple #[.agg #[.int .i64 s', .slice A' zs'.length c', .int .i64 u'], .bool bb])) rfl (by kernel_rfl) (by kernel_rfl) (by kernel_rfl) (fun _ _ _ h => h) (.inl ⟨rfl, fun V hS => ?y0⟩) HS.out ?_
        case y0 =>
          clear hS
          go_simp
        go_simp
        refine wpAnyH_take (i := 11) (v := (.agg #[.int .i64 s', .slice A' zs'.length c', .int .i64 u'])) rfl (by kernel_rfl) (by kernel_rfl) (by kernel_rfl) (fun _ _ _ h => h) (.inl ⟨rfl, fun V hS => ?y0⟩) HS.out ?_
        case y0 =>
          clear hS
          go_simp
        go_simp
        refine wpAnyH_take (i := 12) (v := (.bool bb)) rfl (by kernel_rfl) (by kernel_rfl) (by kernel_rfl) (fun _ _ _ h => h) (.inl ⟨rfl, fun V hS => ?y0⟩) HS.out ?_
        case y0 =>
          clear hS
          go_simp
        go_simp
        refine wpAnyH_ready (rs := [13]) (by kernel_rfl) (by simp) (AllReadyH.cons rfl (fun J hJ => ?_) AllReadyH.nil)
        obtain ⟨q0, q1, q2, q3⟩ := PX.out.cells
        go_simp
        clear q0 q1 q2 q3
        obtain ⟨v9, hv9⟩ : ∃ W', ((v2.setCell ⟨wr.heap.size, 0, none⟩ (.int .i64 s')).setCell ⟨wr.heap.size, 1, none⟩ (.slice A' zs'.length c')).setCell ⟨wr.heap.size, 2, none⟩ (.int .i64 u') = W' := ⟨_, rfl⟩
        replace PX : Hid (PB v9 wr.heap.size (.int .i64 s') (.slice A' zs'.length c') (.int .i64 u')) := by rw [← hv9]; exact ((PX.out.set0 _).set1 _).set2 _
        have z9 : v2.heap.size = v9.heap.size := by rw [← hv9]; simp [World.setCell]
        have RW : Hid (RowE v9 w1.heap.size ⟨⟨s', zs', u'⟩, A', c'⟩ (.slice (some ⟨g, 0, none⟩) (k + 1) cp) va) := by
          intro hp
          obtain ⟨g9, h1, h2, h3, h4, h5, h6⟩ := RW0.out hp
          refine ⟨g9, h1, h2, by omega, h4.of_block ?_, h5, h6⟩
          have hne : g9 ≠ wr.heap.size := by have := RN.out g9 h1 hp; omega
          rw [← hv9]
          rw [heap_setCell_other _ _ _ _ hne, heap_setCell_other _ _ _ _ hne, heap_setCell_other _ _ _ _ hne]
        have BW : Hid (Below wr.heap.size wr v9) := by rw [← hv9]; exact ((HS.out.setCell (Nat.le_refl _) _).setCell (Nat.le_refl _) _).setCell (Nat.le_refl _) _
        rw [hv9]
        clear hv9
        refine hJ.out _ _ BW.out (fun _ => ?_)
        clear hJ J
        go_simp
        refine wpAnyH_take (i := 14) (v := .bool bb) rfl (by kernel_rfl) (by kernel_rfl) (by kernel_rfl) (fun _ _ _ h => h) (.inl ⟨rfl, fun V hS => ?y0⟩) BW.out ?_
        case y0 =>
          clear hS
          go_simp
        go_simp
        refine wpAnyH_done (by kernel_rfl) ?_ _
        clear HC
        cases bb
        · skip
          have Heb : Hid ((⟨s', zs', u'⟩ : Br) = (stepR c (hB c evs k) (evs.getD k (0, 0))).1) := by show _ = _; rw [Hr.out, HRQ.out]
          have Hex : Hid ((0 : Int) = (stepR c (hB c evs k) (evs.getD k (0, 0))).2) := by show _ = _; rw [Hr.out, HRQ.out]; rfl
          have Hsx := Lib.hid (Hst.out.keep BW.out)
          have zx : wr.heap.size < (v9).heap.size := PX.out.lt
          have c0 := bkeep C0.out BW.out
          obtain ⟨q0, q1, q2, q3⟩ := PX.out.cells
          clear q3
          have hown := Hsx.out.own
          rw [hlen] at hown
          have Hown := Lib.hid hown
          clear hown
          go_wp2_with fail
          refine (in_any _ 0 2 _).mono ?_
          rintro e w' ⟨rfl, rfl⟩
          rw [HIN.out]
          clear c0
          go_wp2_with (at_builtin; refine wpList_append_own_at _ rfl _ _ 67 rfl w1.heap.size 31 j0 (.agg #[.int .i64 0, .slice none 0 0, .int .i64 0]) 3 40 Try.underlying67 Hj0.out Hy0.out Hy1.out Hy2.out rfl (by decide) _ (k + 1) (cellsE es) rfl (Hown.out.alloc _) ⟨(v9).heap.size, 0, none⟩ 1 1 [.int .i64 s', .slice A' zs'.length c', .int .i64 u'] rfl rfl ?c1h ?c2h ?c3h ?c4h ?c5h ?_)
          case c1h => exact new_three rfl _ _ _ _
          case c2h => simp [Value.oneCell']
          case c3h => unfold maxLen; omega
          case c4h => omega
          case c5h => simp; omega
          intro v5 w5 hown5 hgr5 _ hat5
          have hp5 := Hsx.out.push ⟨⟨s', zs', u'⟩, A', c'⟩ RW.out (by rw [hlen]; exact hown5) hgr5 (by first | exact hat5 | simpa using hat5)
          have Hs5 := Lib.hid hp5
          clear hp5 hown5 hgr5 hat5 q0 q1 q2
          have z5 : w1.heap.size ≤ w5.heap.size := Hs5.out.low
          have hans := Hs5.out.ans
          rw [htl] at hans
          have Hans := Lib.hid hans
          clear hans
          go_wp2_with (at_builtin; refine wpList_append_own_at _ rfl _ _ 29 rfl w1.heap.size 3 i0 (.int .i64 0) 1 8 Try.underlying29 Hi0.out Hz0.out Hz1.out Hz2.out rfl (by decide) _ k (ts.map (Value.int .i64)) rfl (Hans.out.alloc _) ⟨w5.heap.size, 0, none⟩ 1 1 [.int .i64 (0)] rfl rfl ?d1h ?d2h ?d3h ?d4h ?d5h ?_)
          case d1h => exact new_one_at rfl _ _
          case d2h => simp [Value.oneCell']
          case d3h => unfold maxLen; omega
          case d4h => omega
          case d5h => simp; omega
          intro v6 w6 hown6 hgr6 _ hat6
          have hp6 := Hs5.out.tell (x := (0)) (by rw [htl]; exact hown6) hgr6 (by first | exact hat6 | simpa using hat6)
          have Hs6 := Lib.hid hp6
          clear hp6 hown6 hgr6 hat6
          go_wp2
          go_roundw
          case rel => exact ⟨_, _, k + 1, _, _, rfl, rfl, by omega, by go_num, Hs6.out, Hhi.out.step (by have := Hn.out; omega) Heb.out Hex.out⟩
          case measure => simp [intOf]; omega
        · skip
          have Heb : Hid ((⟨s', zs', u'⟩ : Br) = (stepR c (hB c evs k) (evs.getD k (0, 0))).1) := by show _ = _; rw [Hr.out, HRQ.out]
          have Hex : Hid ((1 : Int) = (stepR c (hB c evs k) (evs.getD k (0, 0))).2) := by show _ = _; rw [Hr.out, HRQ.out]; rfl
          have Hsx := Lib.hid (Hst.out.keep BW.out)
          have zx : wr.heap.size < (v9).heap.size := PX.out.lt
          have c0 := bkeep C0.out BW.out
          obtain ⟨q0, q1, q2, q3⟩ := PX.out.cells
          clear q3
          have hown := Hsx.out.own
          rw [hlen] at hown
          have Hown := Lib.hid hown
          clear hown
          go_wp2_with fail
          refine (in_any _ 0 2 _).mono ?_
          rintro e w' ⟨rfl, rfl⟩
          rw [HIN.out]
          clear c0
          go_wp2_with (at_builtin; refine wpList_append_own_at _ rfl _ _ 67 rfl w1.heap.size 31 j0 (.agg #[.int .i64 0, .slice none 0 0, .int .i64 0]) 3 40 Try.underlying67 Hj0.out Hy0.out Hy1.out Hy2.out rfl (by decide) _ (k + 1) (cellsE es) rfl (Hown.out.alloc _) ⟨(v9).heap.size, 0, none⟩ 1 1 [.int .i64 s', .slice A' zs'.length c', .int .i64 u'] rfl rfl ?c1h ?c2h ?c3h ?c4h ?c5h ?_)
          case c1h => exact new_three rfl _ _ _ _
          case c2h => simp [Value.oneCell']
          case c3h => unfold maxLen; omega
          case c4h => omega
          case c5h => simp; omega
          intro v5 w5 hown5 hgr5 _ hat5
          have hp5 := Hsx.out.push ⟨⟨s', zs', u'⟩, A', c'⟩ RW.out (by rw [hlen]; exact hown5) hgr5 (by first | exact hat5 | simpa using hat5)
          have Hs5 := Lib.hid hp5
          clear hp5 hown5 hgr5 hat5 q0 q1 q2
          have z5 : w1.heap.size ≤ w5.heap.size := Hs5.out.low
          have hans := Hs5.out.ans
          rw [htl] at hans
          have Hans := Lib.hid hans
          clear hans
          go_wp2_with (at_builtin; refine wpList_append_own_at _ rfl _ _ 29 rfl w1.heap.size 3 i0 (.int .i64 0) 1 8 Try.underlying29 Hi0.out Hz0.out Hz1.out Hz2.out rfl (by decide) _ k (ts.map (Value.int .i64)) rfl (Hans.out.alloc _) ⟨w5.heap.size, 0, none⟩ 1 1 [.int .i64 (1)] rfl rfl ?d1h ?d2h ?d3h ?d4h ?d5h ?_)
          case d1h => exact new_one_at rfl _ _
          case d2h => simp [Value.oneCell']
          case d3h => unfold maxLen; omega
          case d4h => omega
          case d5h => simp; omega
          intro v6 w6 hown6 hgr6 _ hat6
          have hp6 := Hs5.out.tell (x := (1)) (by rw [htl]; exact hown6) hgr6 (by first | exact hat6 | simpa using hat6)
          have Hs6 := Lib.hid hp6
          clear hp6 hown6 hgr6 hat6
          go_wp2
          go_roundw
          case rel => exact ⟨_, _, k + 1, _, _, rfl, rfl, by omega, by go_num, Hs6.out, Hhi.out.step (by have := Hn.out; omega) Heb.out Hex.out⟩
          case measure => simp [intOf]; omega
      by_cases h1 : kd = 1
      · subst h1
        obtain ⟨q, hq⟩ : ∃ q, failR c ⟨s, zs, u⟩ now = q := ⟨_, rfl⟩
        have hst : r = (q.1, if q.2 = true then 1 else 0) := by rw [← Hr0.out, ← hq]; rfl
        have HC : Hid (∀ V, Below wr.heap.size wr V → Calls Try.prog 32 #[.agg #[.int .i64 (c 0), .int .i64 (c 1), .int .i64 (c 2), .int .i64 (c 3), .int .i64 (c 4), .int .i64 (c 5), .int .i64 (c 6), .int .i64 (c 7), .int .i64 (c 8), .int .i64 (c 9), .int .i64 (c 10), .int .i64 (c 11), .int .i64 (c 12), .int .i64 (c 13)], .agg #[.int .i64 s, .slice A2 zs.length c2, .int .i64 u], .int .i64 now] V (BrEnd V q)) := fun V hV => by
          have := specOnFailure_any c A2 zs.length c2 s u now zs V rfl (by omega) (Hrow.out.iv.ints.below hV)
          rw [hq] at this
          exact this
        have HRQ := Lib.hid hst
        have HIN : Hid (inB 1 0 2 = true) := by show _ = _; decide
        clear hq hst
        go_wp2_with fail
        obtain ⟨Wa, hWa⟩ : ∃ Wa, wr.alloc (.cells #[.int .i64 s, .slice A2 zs.length c2, .int .i64 u] 31) = Wa := ⟨_, rfl⟩
        have ba : Below wr.heap.size wr Wa := by rw [← hWa]; exact bel_alloc _ _
        have PX : Hid (PB Wa wr.heap.size (.int .i64 s) (.slice A2 zs.length c2) (.int .i64 u)) := by rw [← hWa]; exact heap_alloc_new wr _
        have za : wr.heap.size < Wa.heap.size := PX.out.lt
        rw [hWa]
        clear hWa c0 c1 y0 y1 y2
        have HS : Hid (Below wr.heap.size wr Wa.drew) := ba.drew
        refine wp_region_held_drew (S := Below wr.heap.size wr) (by kernel_rfl) HS.out (fun _ => ?_)
        obtain ⟨v0, hv0⟩ : ∃ W', Wa.drew = W' := ⟨_, rfl⟩
        have zz0 : wr.heap.size < v0.heap.size := by rw [← hv0]; exact za
        replace PX : Hid (PB v0 wr.heap.size (.int .i64 s) (.slice A2 zs.length c2) (.int .i64 u)) := by rw [← hv0]; exact PX.out
        rw [hv0] at HS ⊢
        clear hv0 ba za
        refine wpAnyH_take (i := 0) (v := .agg #[.int .i64 (c 0), .int .i64 (c 1), .int .i64 (c 2), .int .i64 (c 3), .int .i64 (c 4), .int .i64 (c 5), .int .i64 (c 6), .int .i64 (c 7), .int .i64 (c 8), .int .i64 (c 9), .int .i64 (c 10), .int .i64 (c 11), .int .i64 (c 12), .int .i64 (c 13)]) rfl (by kernel_rfl) (by kernel_rfl) (by kernel_rfl) (fun _ _ _ h => h) (.inl ⟨rfl, fun V hS => ?y0⟩) HS.out ?_
        case y0 =>
          have hk9 := (hS.block _ (by omega)).trans KA.out
          have q0 : V.cell? ⟨w.heap.size, 0, none⟩ = some (.int .i64 (c 0)) := cell_of_row _ _ 0 _ _ (0, 0) hk9
          have q1 : V.cell? ⟨w.heap.size, 1, none⟩ = some (.int .i64 (c 1)) := cell_of_row _ _ 1 _ _ (0, 0) hk9
          have q2 : V.cell? ⟨w.heap.size, 2, none⟩ = some (.int .i64 (c 2)) := cell_of_row _ _ 2 _ _ (0, 0) hk9
          have q3 : V.cell? ⟨w.heap.size, 3, none⟩ = some (.int .i64 (c 3)) := cell_of_row _ _ 3 _ _ (0, 0) hk9
          have q4 : V.cell? ⟨w.heap.size, 4, none⟩ = some (.int .i64 (c 4)) := cell_of_row _ _ 4 _ _ (0, 0) hk9
          have q5 : V.cell? ⟨w.heap.size, 5, none⟩ = some (.int .i64 (c 5)) := cell_of_row _ _ 5 _ _ (0, 0) hk9
          have q6 : V.cell? ⟨w.heap.size, 6, none⟩ = some (.int .i64 (c 6)) := cell_of_row _ _ 6 _ _ (0, 0) hk9
          have q7 : V.cell? ⟨w.heap.size, 7, none⟩ = some (.int .i64 (c 7)) := cell_of_row _ _ 7 _ _ (0, 0) hk9
          have q8 : V.cell? ⟨w.heap.size, 8, none⟩ = some (.int .i64 (c 8)) := cell_of_row _ _ 8 _ _ (0, 0) hk9
          have q9 : V.cell? ⟨w.heap.size, 9, none⟩ = some (.int .i64 (c 9)) := cell_of_row _ _ 9 _ _ (0, 0) hk9
          have q10 : V.cell? ⟨w.heap.size, 10, none⟩ = some (.int .i64 (c 10)) := cell_of_row _ _ 10 _ _ (0, 0) hk9
          have q11 : V.cell? ⟨w.heap.size, 11, none⟩ = some (.int .i64 (c 11)) := cell_of_row _ _ 11 _ _ (0, 0) hk9
          have q12 : V.cell? ⟨w.heap.size, 12, none⟩ = some (.int .i64 (c 12)) := cell_of_row _ _ 12 _ _ (0, 0) hk9
          have q13 : V.cell? ⟨w.heap.size, 13, none⟩ = some (.int .i64 (c 13)) := cell_of_row _ _ 13 _ _ (0, 0) hk9
          clear hk9 hS
          go_simp
        go_simp
        refine wpAnyH_take (i := 1) (v := (.slice (some ⟨g, 0, none⟩) (k + 1) cp)) rfl (by kernel_rfl) (by kernel_rfl) (by kernel_rfl) (fun _ _ _ h => h) (.inl ⟨rfl, fun V hS => ?y0⟩) HS.out ?_
        case y0 =>
          clear hS
          go_simp
        go_simp
        refine wpAnyH_take (i := 2) (v := (.int .i64 k)) rfl (by kernel_rfl) (by kernel_rfl) (by kernel_rfl) (fun _ _ _ h => h) (.inl ⟨rfl, fun V hS => ?y0⟩) HS.out ?_
        case y0 =>
          clear hS
          go_simp
        go_simp
        refine wpAnyH_take (i := 3) (v := (.pointer (some ⟨g, k * 3, none⟩))) rfl (by kernel_rfl) (by kernel_rfl) (by kernel_rfl) (fun _ _ _ h => h) (.inl ⟨rfl, fun V hS => ?y0⟩) HS.out ?_
        case y0 =>
          clear hS
          go_simp
        go_simp
        refine wpAnyH_take (i := 4) (v := .agg #[.int .i64 s, .slice A2 zs.length c2, .int .i64 u]) rfl (by kernel_rfl) (by kernel_rfl) (by kernel_rfl) (fun _ _ _ h => h) (.inl ⟨rfl, fun V hS => ?y1⟩) HS.out ?_
        case y1 =>
          have q0 := bkeep Y0.out hS
          have q1 := bkeep Y1.out hS
          have q2 := bkeep Y2.out hS
          clear hS
          go_simp
        go_simp
        refine wpAnyH_take (i := 5) (v := (.slice (some ⟨ge, off, none⟩) n cap)) rfl (by kernel_rfl) (by kernel_rfl) (by kernel_rfl) (fun _ _ _ h => h) (.inl ⟨rfl, fun V hS => ?y0⟩) HS.out ?_
        case y0 =>
          clear hS
          go_simp
        go_simp
        refine wpAnyH_take (i := 6) (v := (.int .i64 k)) rfl (by kernel_rfl) (by kernel_rfl) (by kernel_rfl) (fun _ _ _ h => h) (.inl ⟨rfl, fun V hS => ?y0⟩) HS.out ?_
        case y0 =>
          clear hS
          go_simp
        go_simp
        refine wpAnyH_take (i := 7) (v := (.pointer (some ⟨ge, off + k * 2, none⟩))) rfl (by kernel_rfl) (by kernel_rfl) (by kernel_rfl) (fun _ _ _ h => h) (.inl ⟨rfl, fun V hS => ?y0⟩) HS.out ?_
        case y0 =>
          clear hS
          go_simp
        go_simp
        refine wpAnyH_take (i := 8) (v := (.pointer (some ⟨ge, off + k * 2 + 1, none⟩))) rfl (by kernel_rfl) (by kernel_rfl) (by kernel_rfl) (fun _ _ _ h => h) (.inl ⟨rfl, fun V hS => ?y0⟩) HS.out ?_
        case y0 =>
          clear hS
          go_simp
        go_simp
        refine wpAnyH_take (i := 9) (v := .int .i64 now) rfl (by kernel_rfl) (by kernel_rfl) (by kernel_rfl) (fun _ _ _ h => h) (.inl ⟨rfl, fun V hS => ?y2⟩) HS.out ?_
        case y2 =>
          have q1 := bkeep C1.out hS
          clear hS
          go_simp
        go_simp
        refine wpAnyH_ready (rs := [10]) (by kernel_rfl) (by simp) (AllReadyH.cons rfl (fun J hJ => ?_) AllReadyH.nil)
        go_simp
        refine (HC.out _ HS.out).mono ?_
        rintro e v2 ⟨A', c', rfl, v3, b3⟩
        have zz2 : (v0).heap.size ≤ v2.heap.size := b3.size
        have hrn := rowE_new (r := (q.1, (0 : Int))) (Wa := wr) (A3 := A') (c3 := c') zr Hrow.out HVL.out HVA.out HS.out b3 (.inl v3)
        have RW0 := Lib.hid hrn.1
        have RN := Lib.hid hrn.2
        replace PX := Lib.hid (PX.out.below b3 (by omega))
        replace HS := Lib.hid (HS.out.trans (b3.mono (by omega)))
        clear hrn v3 b3
        obtain ⟨⟨s', zs', u'⟩, bb⟩ := q
        dsimp only at RW0 RN ⊢
        refine hJ.out _ _ HS.out (fun _ => ?_)
        clear hJ J
        go_simp
        refine wpAnyH_take (i := 11) (v := (.tuple #[.agg #[.int .i64 s', .slice A' zs'.length c', .int .i64 u'], .bool bb])) rfl (by kernel_rfl) (by kernel_rfl) (by kernel_rfl) (fun _ _ _ h => h) (.inl ⟨rfl, fun V hS => ?y0⟩) HS.out ?_
        case y0 =>
          clear hS
          go_simp
        go_simp
        refine wpAnyH_take (i := 12) (v := (.agg #[.int .i64 s', .slice A' zs'.length c', .int .i64 u'])) rfl (by kernel_rfl) (by kernel_rfl) (by kernel_rfl) (fun _ _ _ h => h) (.inl ⟨rfl, fun V hS => ?y0⟩) HS.out ?_
        case y0 =>
          clear hS
          go_simp
        go_simp
        refine wpAnyH_take (i := 13) (v := (.bool bb)) rfl (by kernel_rfl) (by kernel_rfl) (by kernel_rfl) (fun _ _ _ h => h) (.inl ⟨rfl, fun V hS => ?y0⟩) HS.out ?_
        case y0 =>
          clear hS
          go_simp
        go_simp
        refine wpAnyH_ready (rs := [14]) (by kernel_rfl) (by simp) (AllReadyH.cons rfl (fun J hJ => ?_) AllReadyH.nil)
        obtain ⟨q0, q1, q2, q3⟩ := PX.out.cells
        go_simp
        clear q0 q1 q2 q3
        obtain ⟨v9, hv9⟩ : ∃ W', ((v2.setCell ⟨wr.heap.size, 0, none⟩ (.int .i64 s')).setCell ⟨wr.heap.size, 1, none⟩ (.slice A' zs'.length c')).setCell ⟨wr.heap.size, 2, none⟩ (.int .i64 u') = W' := ⟨_, rfl⟩
        replace PX : Hid (PB v9 wr.heap.size (.int .i64 s') (.slice A' zs'.length c') (.int .i64 u')) := by rw [← hv9]; exact ((PX.out.set0 _).set1 _).set2 _
        have z9 : v2.heap.size = v9.heap.size := by rw [← hv9]; simp [World.setCell]
        have RW : Hid (RowE v9 w1.heap.size ⟨⟨s', zs', u'⟩, A', c'⟩ (.slice (some ⟨g, 0, none⟩) (k + 1) cp) va) := by
          intro hp
          obtain ⟨g9, h1, h2, h3, h4, h5, h6⟩ := RW0.out hp
          refine ⟨g9, h1, h2, by omega, h4.of_block ?_, h5, h6⟩
          have hne : g9 ≠ wr.heap.size := by have := RN.out g9 h1 hp; omega
          rw [← hv9]
          rw [heap_setCell_other _ _ _ _ hne, heap_setCell_other _ _ _ _ hne, heap_setCell_other _ _ _ _ hne]
        have BW : Hid (Below wr.heap.size wr v9) := by rw [← hv9]; exact ((HS.out.setCell (Nat.le_refl _) _).setCell (Nat.le_refl _) _).setCell (Nat.le_refl _) _
        rw [hv9]
        clear hv9
        refine hJ.out _ _ BW.out (fun _ => ?_)
        clear hJ J
        go_simp
        refine wpAnyH_take (i := 15) (v := .bool bb) rfl (by kernel_rfl) (by kernel_rfl) (by kernel_rfl) (fun _ _ _ h => h) (.inl ⟨rfl, fun V hS => ?y0⟩) BW.out ?_
        case y0 =>
          clear hS
          go_simp
        go_simp
        refine wpAnyH_done (by kernel_rfl) ?_ _
        clear HC
        cases bb
        · skip
          have Heb : Hid ((⟨s', zs', u'⟩ : Br) = (stepR c (hB c evs k) (evs.getD k (0, 0))).1) := by show _ = _; rw [Hr.out, HRQ.out]
          have Hex : Hid ((0 : Int) = (stepR c (hB c evs k) (evs.getD k (0, 0))).2) := by show _ = _; rw [Hr.out, HRQ.out]; rfl
          have Hsx := Lib.hid (Hst.out.keep BW.out)
          have zx : wr.heap.size < (v9).heap.size := PX.out.lt
          have c0 := bkeep C0.out BW.out
          obtain ⟨q0, q1, q2, q3⟩ := PX.out.cells
          clear q3
          have hown := Hsx.out.own
          rw [hlen] at hown
          have Hown := Lib.hid hown
          clear hown
          go_wp2_with fail
          refine (in_any _ 0 2 _).mono ?_
          rintro e w' ⟨rfl, rfl⟩
          rw [HIN.out]
          clear c0
          go_wp2_with (at_builtin; refine wpList_append_own_at _ rfl _ _ 67 rfl w1.heap.size 31 j0 (.agg #[.int .i64 0, .slice none 0 0, .int .i64 0]) 3 40 Try.underlying67 Hj0.out Hy0.out Hy1.out Hy2.out rfl (by decide) _ (k + 1) (cellsE es) rfl (Hown.out.alloc _) ⟨(v9).heap.size, 0, none⟩ 1 1 [.int .i64 s', .slice A' zs'.length c', .int .i64 u'] rfl rfl ?c1h ?c2h ?c3h ?c4h ?c5h ?_)
          case c1h => exact new_three rfl _ _ _ _
          case c2h => simp [Value.oneCell']
          case c3h => unfold maxLen; omega
          case c4h => omega
          case c5h => simp; omega
          intro v5 w5 hown5 hgr5 _ hat5
          have hp5 := Hsx.out.push ⟨⟨s', zs', u'⟩, A', c'⟩ RW.out (by rw [hlen]; exact hown5) hgr5 (by first | exact hat5 | simpa using hat5)
          have Hs5 := Lib.hid hp5
          clear hp5 hown5 hgr5 hat5 q0 q1 q2
          have z5 : w1.heap.size ≤ w5.heap.size := Hs5.out.low
          have hans := Hs5.out.ans
          rw [htl] at hans
          have Hans := Lib.hid hans
          clear hans
          go_wp2_with (at_builtin; refine wpList_append_own_at _ rfl _ _ 29 rfl w1.heap.size 3 i0 (.int .i64 0) 1 8 Try.underlying29 Hi0.out Hz0.out Hz1.out Hz2.out rfl (by decide) _ k (ts.map (Value.int .i64)) rfl (Hans.out.alloc _) ⟨w5.heap.size, 0, none⟩ 1 1 [.int .i64 (0)] rfl rfl ?d1h ?d2h ?d3h ?d4h ?d5h ?_)
          case d1h => exact new_one_at rfl _ _
          case d2h => simp [Value.oneCell']
          case d3h => unfold maxLen; omega
          case d4h => omega
          case d5h => simp; omega
          intro v6 w6 hown6 hgr6 _ hat6
          have hp6 := Hs5.out.tell (x := (0)) (by rw [htl]; exact hown6) hgr6 (by first | exact hat6 | simpa using hat6)
          have Hs6 := Lib.hid hp6
          clear hp6 hown6 hgr6 hat6
          go_wp2
          go_roundw
          case rel => exact ⟨_, _, k + 1, _, _, rfl, rfl, by omega, by go_num, Hs6.out, Hhi.out.step (by have := Hn.out; omega) Heb.out Hex.out⟩
          case measure => simp [intOf]; omega
        · skip
          have Heb : Hid ((⟨s', zs', u'⟩ : Br) = (stepR c (hB c evs k) (evs.getD k (0, 0))).1) := by show _ = _; rw [Hr.out, HRQ.out]
          have Hex : Hid ((1 : Int) = (stepR c (hB c evs k) (evs.getD k (0, 0))).2) := by show _ = _; rw [Hr.out, HRQ.out]; rfl
          have Hsx := Lib.hid (Hst.out.keep BW.out)
          have zx : wr.heap.size < (v9).heap.size := PX.out.lt
          have c0 := bkeep C0.out BW.out
          obtain ⟨q0, q1, q2, q3⟩ := PX.out.cells
          clear q3
          have hown := Hsx.out.own
          rw [hlen] at hown
          have Hown := Lib.hid hown
          clear hown
          go_wp2_with fail
          refine (in_any _ 0 2 _).mono ?_
          rintro e w' ⟨rfl, rfl⟩
          rw [HIN.out]
          clear c0
          go_wp2_with (at_builtin; refine wpList_append_own_at _ rfl _ _ 67 rfl w1.heap.size 31 j0 (.agg #[.int .i64 0, .slice none 0 0, .int .i64 0]) 3 40 Try.underlying67 Hj0.out Hy0.out Hy1.out Hy2.out rfl (by decide) _ (k + 1) (cellsE es) rfl (Hown.out.alloc _) ⟨(v9).heap.size, 0, none⟩ 1 1 [.int .i64 s', .slice A' zs'.length c', .int .i64 u'] rfl rfl ?c1h ?c2h ?c3h ?c4h ?c5h ?_)
          case c1h => exact new_three rfl _ _ _ _
          case c2h => simp [Value.oneCell']
          case c3h => unfold maxLen; omega
          case c4h => omega
          case c5h => simp; omega
          intro v5 w5 hown5 hgr5 _ hat5
          have hp5 := Hsx.out.push ⟨⟨s', zs', u'⟩, A', c'⟩ RW.out (by rw [hlen]; exact hown5) hgr5 (by first | exact hat5 | simpa using hat5)
          have Hs5 := Lib.hid hp5
          clear hp5 hown5 hgr5 hat5 q0 q1 q2
          have z5 : w1.heap.size ≤ w5.heap.size := Hs5.out.low
          have hans := Hs5.out.ans
          rw [htl] at hans
          have Hans := Lib.hid hans
          clear hans
          go_wp2_with (at_builtin; refine wpList_append_own_at _ rfl _ _ 29 rfl w1.heap.size 3 i0 (.int .i64 0) 1 8 Try.underlying29 Hi0.out Hz0.out Hz1.out Hz2.out rfl (by decide) _ k (ts.map (Value.int .i64)) rfl (Hans.out.alloc _) ⟨w5.heap.size, 0, none⟩ 1 1 [.int .i64 (1)] rfl rfl ?d1h ?d2h ?d3h ?d4h ?d5h ?_)
          case d1h => exact new_one_at rfl _ _
          case d2h => simp [Value.oneCell']
          case d3h => unfold maxLen; omega
          case d4h => omega
          case d5h => simp; omega
          intro v6 w6 hown6 hgr6 _ hat6
          have hp6 := Hs5.out.tell (x := (1)) (by rw [htl]; exact hown6) hgr6 (by first | exact hat6 | simpa using hat6)
          have Hs6 := Lib.hid hp6
          clear hp6 hown6 hgr6 hat6
          go_wp2
          go_roundw
          case rel => exact ⟨_, _, k + 1, _, _, rfl, rfl, by omega, by go_num, Hs6.out, Hhi.out.step (by have := Hn.out; omega) Heb.out Hex.out⟩
          case measure => simp [intOf]; omega
      by_cases h2 : kd = 2
      · subst h2
        obtain ⟨q, hq⟩ : ∃ q, succR ⟨s, zs, u⟩ = q := ⟨_, rfl⟩
        have hst : r = (q.1, if q.2 = true then 1 else 0) := by rw [← Hr0.out, ← hq]; rfl
        have HC : Hid (∀ V, Below wr.heap.size wr V → Calls Try.prog 34 #[.agg #[.int .i64 s, .slice A2 zs.length c2, .int .i64 u]] V (BrEnd V q)) := fun V hV => by
          have := specOnSuccess_any A2 zs.length c2 s u zs V rfl (by omega) (Hrow.out.iv.ints.below hV)
          rw [hq] at this
          exact this
        have HRQ := Lib.hid hst
        have HIN : Hid (inB 2 0 2 = true) := by show _ = _; decide
        clear hq hst
        go_wp2_with fail
        obtain ⟨Wa, hWa⟩ : ∃ Wa, wr.alloc (.cells #[.int .i64 s, .slice A2 zs.length c2, .int .i64 u] 31) = Wa := ⟨_, rfl⟩
        have ba : Below wr.heap.size wr Wa := by rw [← hWa]; exact bel_alloc _ _
        have PX : Hid (PB Wa wr.heap.size (.int .i64 s) (.slice A2 zs.length c2) (.int .i64 u)) := by rw [← hWa]; exact heap_alloc_new wr _
        have za : wr.heap.size < Wa.heap.size := PX.out.lt
        rw [hWa]
        clear hWa c0 c1 y0 y1 y2
        refine (HC.out _ ba).mono ?_
        rintro e v2 ⟨A', c', rfl, v3, b3⟩
        have HS := Lib.hid ba
        clear ba
        have zz2 : (Wa).heap.size ≤ v2.heap.size := b3.size
        have hrn := rowE_new (r := (q.1, (0 : Int))) (Wa := wr) (A3 := A') (c3 := c') zr Hrow.out HVL.out HVA.out HS.out b3 (.inl v3)
        have RW0 := Lib.hid hrn.1
        have RN := Lib.hid hrn.2
        replace PX := Lib.hid (PX.out.below b3 (by omega))
        replace HS := Lib.hid (HS.out.trans (b3.mono (by omega)))
        clear hrn v3 b3
        obtain ⟨⟨s', zs', u'⟩, bb⟩ := q
        dsimp only at RW0 RN ⊢
        obtain ⟨x0, x1, x2, xf⟩ := PX.out.cells
        clear HC
        have BW0 := HS
        cases bb
        · have Heb : Hid ((⟨s', zs', u'⟩ : Br) = (stepR c (hB c evs k) (evs.getD k (0, 0))).1) := by show _ = _; rw [Hr.out, HRQ.out]
          have Hex : Hid ((0 : Int) = (stepR c (hB c evs k) (evs.getD k (0, 0))).2) := by show _ = _; rw [Hr.out, HRQ.out]; rfl
          obtain ⟨v9, hv9⟩ : ∃ W', ((v2.setCell ⟨wr.heap.size, 0, none⟩ (.int .i64 s')).setCell ⟨wr.heap.size, 1, none⟩ (.slice A' zs'.length c')).setCell ⟨wr.heap.size, 2, none⟩ (.int .i64 u') = W' := ⟨_, rfl⟩
          replace PX : Hid (PB v9 wr.heap.size (.int .i64 s') (.slice A' zs'.length c') (.int .i64 u')) := by rw [← hv9]; exact ((PX.out.set0 _).set1 _).set2 _
          have z9 : v2.heap.size = v9.heap.size := by rw [← hv9]; simp [World.setCell]
          have RW : Hid (RowE v9 w1.heap.size ⟨⟨s', zs', u'⟩, A', c'⟩ (.slice (some ⟨g, 0, none⟩) (k + 1) cp) va) := by
            intro hp
            obtain ⟨g9, h1, h2, h3, h4, h5, h6⟩ := RW0.out hp
            refine ⟨g9, h1, h2, by omega, h4.of_block ?_, h5, h6⟩
            have hne : g9 ≠ wr.heap.size := by have := RN.out g9 h1 hp; omega
            rw [← hv9]
            rw [heap_setCell_other _ _ _ _ hne, heap_setCell_other _ _ _ _ hne, heap_setCell_other _ _ _ _ hne]
          have BW : Hid (Below wr.heap.size wr v9) := by rw [← hv9]; exact ((HS.out.setCell (Nat.le_refl _) _).setCell (Nat.le_refl _) _).setCell (Nat.le_refl _) _
          have c0 : v9.cell? ⟨ge, off + k * 2, none⟩ = some (.int .i64 2) := bkeep C0.out BW.out
          go_wp2_with fail
          clear hv9 x0 x1 x2 xf c0
          have Hsx := Lib.hid (Hst.out.keep BW.out)
          have zx : wr.heap.size < (v9).heap.size := PX.out.lt
          obtain ⟨q0, q1, q2, q3⟩ := PX.out.cells
          clear q3
          have hown := Hsx.out.own
          rw [hlen] at hown
          have Hown := Lib.hid hown
          clear hown
          refine (in_any _ 0 2 _).mono ?_
          rintro e w' ⟨rfl, rfl⟩
          rw [HIN.out]
          go_wp2_with (at_builtin; refine wpList_append_own_at _ rfl _ _ 67 rfl w1.heap.size 31 j0 (.agg #[.int .i64 0, .slice none 0 0, .int .i64 0]) 3 40 Try.underlying67 Hj0.out Hy0.out Hy1.out Hy2.out rfl (by decide) _ (k + 1) (cellsE es) rfl (Hown.out.alloc _) ⟨(v9).heap.size, 0, none⟩ 1 1 [.int .i64 s', .slice A' zs'.length c', .int .i64 u'] rfl rfl ?c1h ?c2h ?c3h ?c4h ?c5h ?_)
          case c1h => exact new_three rfl _ _ _ _
          case c2h => simp [Value.oneCell']
          case c3h => unfold maxLen; omega
          case c4h => omega
          case c5h => simp; omega
          intro v5 w5 hown5 hgr5 _ hat5
          have hp5 := Hsx.out.push ⟨⟨s', zs', u'⟩, A', c'⟩ RW.out (by rw [hlen]; exact hown5) hgr5 (by first | exact hat5 | simpa using hat5)
          have Hs5 := Lib.hid hp5
          clear hp5 hown5 hgr5 hat5 q0 q1 q2
          have z5 : w1.heap.size ≤ w5.heap.size := Hs5.out.low
          have hans := Hs5.out.ans
          rw [htl] at hans
          have Hans := Lib.hid hans
          clear hans
          go_wp2_with (at_builtin; refine wpList_append_own_at _ rfl _ _ 29 rfl w1.heap.size 3 i0 (.int .i64 0) 1 8 Try.underlying29 Hi0.out Hz0.out Hz1.out Hz2.out rfl (by decide) _ k (ts.map (Value.int .i64)) rfl (Hans.out.alloc _) ⟨w5.heap.size, 0, none⟩ 1 1 [.int .i64 (0)] rfl rfl ?d1h ?d2h ?d3h ?d4h ?d5h ?_)
          case d1h => exact new_one_at rfl _ _
          case d2h => simp [Value.oneCell']
          case d3h => unfold maxLen; omega
          case d4h => omega
          case d5h => simp; omega
          intro v6 w6 hown6 hgr6 _ hat6
          have hp6 := Hs5.out.tell (x := (0)) (by rw [htl]; exact hown6) hgr6 (by first | exact hat6 | simpa using hat6)
          have Hs6 := Lib.hid hp6
          clear hp6 hown6 hgr6 hat6
          go_wp2
          go_roundw
          case rel => exact ⟨_, _, k + 1, _, _, rfl, rfl, by omega, by go_num, Hs6.out, Hhi.out.step (by have := Hn.out; omega) Heb.out Hex.out⟩
          case measure => simp [intOf]; omega
        · have Heb : Hid ((⟨s', zs', u'⟩ : Br) = (stepR c (hB c evs k) (evs.getD k (0, 0))).1) := by show _ = _; rw [Hr.out, HRQ.out]
          have Hex : Hid ((1 : Int) = (stepR c (hB c evs k) (evs.getD k (0, 0))).2) := by show _ = _; rw [Hr.out, HRQ.out]; rfl
          obtain ⟨v9, hv9⟩ : ∃ W', ((v2.setCell ⟨wr.heap.size, 0, none⟩ (.int .i64 s')).setCell ⟨wr.heap.size, 1, none⟩ (.slice A' zs'.length c')).setCell ⟨wr.heap.size, 2, none⟩ (.int .i64 u') = W' := ⟨_, rfl⟩
          replace PX : Hid (PB v9 wr.heap.size (.int .i64 s') (.slice A' zs'.length c') (.int .i64 u')) := by rw [← hv9]; exact ((PX.out.set0 _).set1 _).set2 _
          have z9 : v2.heap.size = v9.heap.size := by rw [← hv9]; simp [World.setCell]
          have RW : Hid (RowE v9 w1.heap.size ⟨⟨s', zs', u'⟩, A', c'⟩ (.slice (some ⟨g, 0, none⟩) (k + 1) cp) va) := by
            intro hp
            obtain ⟨g9, h1, h2, h3, h4, h5, h6⟩ := RW0.out hp
            refine ⟨g9, h1, h2, by omega, h4.of_block ?_, h5, h6⟩
            have hne : g9 ≠ wr.heap.size := by have := RN.out g9 h1 hp; omega
            rw [← hv9]
            rw [heap_setCell_other _ _ _ _ hne, heap_setCell_other _ _ _ _ hne, heap_setCell_other _ _ _ _ hne]
          have BW : Hid (Below wr.heap.size wr v9) := by rw [← hv9]; exact ((HS.out.setCell (Nat.le_refl _) _).setCell (Nat.le_refl _) _).setCell (Nat.le_refl _) _
          have c0 : v9.cell? ⟨ge, off + k * 2, none⟩ = some (.int .i64 2) := bkeep C0.out BW.out
          go_wp2_with fail
          clear hv9 x0 x1 x2 xf c0
          have Hsx := Lib.hid (Hst.out.keep BW.out)
          have zx : wr.heap.size < (v9).heap.size := PX.out.lt
          obtain ⟨q0, q1, q2, q3⟩ := PX.out.cells
          clear q3
          have hown := Hsx.out.own
          rw [hlen] at hown
          have Hown := Lib.hid hown
          clear hown
          refine (in_any _ 0 2 _).mono ?_
          rintro e w' ⟨rfl, rfl⟩
          rw [HIN.out]
          go_wp2_with (at_builtin; refine wpList_append_own_at _ rfl _ _ 67 rfl w1.heap.size 31 j0 (.agg #[.int .i64 0, .slice none 0 0, .int .i64 0]) 3 40 Try.underlying67 Hj0.out Hy0.out Hy1.out Hy2.out rfl (by decide) _ (k + 1) (cellsE es) rfl (Hown.out.alloc _) ⟨(v9).heap.size, 0, none⟩ 1 1 [.int .i64 s', .slice A' zs'.length c', .int .i64 u'] rfl rfl ?c1h ?c2h ?c3h ?c4h ?c5h ?_)
          case c1h => exact new_three rfl _ _ _ _
          case c2h => simp [Value.oneCell']
          case c3h => unfold maxLen; omega
          case c4h => omega
          case c5h => simp; omega
          intro v5 w5 hown5 hgr5 _ hat5
          have hp5 := Hsx.out.push ⟨⟨s', zs', u'⟩, A', c'⟩ RW.out (by rw [hlen]; exact hown5) hgr5 (by first | exact hat5 | simpa using hat5)
          have Hs5 := Lib.hid hp5
          clear hp5 hown5 hgr5 hat5 q0 q1 q2
          have z5 : w1.heap.size ≤ w5.heap.size := Hs5.out.low
          have hans := Hs5.out.ans
          rw [htl] at hans
          have Hans := Lib.hid hans
          clear hans
          go_wp2_with (at_builtin; refine wpList_append_own_at _ rfl _ _ 29 rfl w1.heap.size 3 i0 (.int .i64 0) 1 8 Try.underlying29 Hi0.out Hz0.out Hz1.out Hz2.out rfl (by decide) _ k (ts.map (Value.int .i64)) rfl (Hans.out.alloc _) ⟨w5.heap.size, 0, none⟩ 1 1 [.int .i64 (1)] rfl rfl ?d1h ?d2h ?d3h ?d4h ?d5h ?_)
          case d1h => exact new_one_at rfl _ _
          case d2h => simp [Value.oneCell']
          case d3h => unfold maxLen; omega
          case d4h => omega
          case d5h => simp; omega
          intro v6 w6 hown6 hgr6 _ hat6
          have hp6 := Hs5.out.tell (x := (1)) (by rw [htl]; exact hown6) hgr6 (by first | exact hat6 | simpa using hat6)
          have Hs6 := Lib.hid hp6
          clear hp6 hown6 hgr6 hat6
          go_wp2
          go_roundw
          case rel => exact ⟨_, _, k + 1, _, _, rfl, rfl, by omega, by go_num, Hs6.out, Hhi.out.step (by have := Hn.out; omega) Heb.out Hex.out⟩
          case measure => simp [intOf]; omega
      have hst : r = (⟨s, zs, u⟩, -1) := by rw [← Hr0.out]; unfold stepR; rw [if_neg h0, if_neg h1, if_neg h2]
      have HRQ := Lib.hid hst
      have HIN : Hid (inB kd 0 2 = false) := inB_false (by omega)
      have e0 : (kd == 0) = false := by simpa using h0
      have e1 : (kd == 1) = false := by simpa using h1
      have e2 : (kd == 2) = false := by simpa using h2
      clear hst h0 h1 h2
      go_wp2_with fail
      obtain ⟨Wa, hWa⟩ : ∃ Wa, wr.alloc (.cells #[.int .i64 s, .slice A2 zs.length c2, .int .i64 u] 31) = Wa := ⟨_, rfl⟩
      have ba : Below wr.heap.size wr Wa := by rw [← hWa]; exact bel_alloc _ _
      have PX : Hid (PB Wa wr.heap.size (.int .i64 s) (.slice A2 zs.length c2) (.int .i64 u)) := by rw [← hWa]; exact heap_alloc_new wr _
      have za : wr.heap.size < Wa.heap.size := PX.out.lt
      rw [hWa]
      clear hWa c0 c1 y0 y1 y2
      have BW := Lib.hid ba
      have RW := Lib.hid (Hrow.out.keep ba)
      have Heb : Hid ((⟨s, zs, u⟩ : Br) = (stepR c (hB c evs k) (evs.getD k (0, 0))).1) := by show _ = _; rw [Hr.out, HRQ.out]
      have Hex : Hid ((-1 : Int) = (stepR c (hB c evs k) (evs.getD k (0, 0))).2) := by show _ = _; rw [Hr.out, HRQ.out]
      clear ba
      obtain ⟨s', hs'⟩ : ∃ s', s = s' := ⟨_, rfl⟩
      obtain ⟨zs', hzs'⟩ : ∃ zs', zs = zs' := ⟨_, rfl⟩
      obtain ⟨u', hu'⟩ : ∃ u', u = u' := ⟨_, rfl⟩
      obtain ⟨A', hA'⟩ : ∃ A', A2 = A' := ⟨_, rfl⟩
      obtain ⟨c', hc'⟩ : ∃ c', c2 = c' := ⟨_, rfl⟩
      rw [hs', hzs', hu'] at Heb
      rw [hs', hzs', hu', hA', hc'] at RW PX
      clear hs' hzs' hu' hA' hc'
      have Hsx := Lib.hid (Hst.out.keep BW.out)
      have zx : wr.heap.size < (Wa).heap.size := PX.out.lt
      obtain ⟨q0, q1, q2, q3⟩ := PX.out.cells
      clear q3
      have hown := Hsx.out.own
      rw [hlen] at hown
      have Hown := Lib.hid hown
      clear hown
      refine (in_any _ 0 2 _).mono ?_
      rintro e w' ⟨rfl, rfl⟩
      rw [HIN.out]
      go_wp2_with (at_builtin; refine wpList_append_own_at _ rfl _ _ 67 rfl w1.heap.size 31 j0 (.agg #[.int .i64 0, .slice none 0 0, .int .i64 0]) 3 40 Try.underlying67 Hj0.out Hy0.out Hy1.out Hy2.out rfl (by decide) _ (k + 1) (cellsE es) rfl (Hown.out.alloc _) ⟨(Wa).heap.size, 0, none⟩ 1 1 [.int .i64 s', .slice A' zs'.length c', .int .i64 u'] rfl rfl ?c1h ?c2h ?c3h ?c4h ?c5h ?_)
      case c1h => exact new_three rfl _ _ _ _
      case c2h => simp [Value.oneCell']
      case c3h => unfold maxLen; omega
      case c4h => omega
      case c5h => simp; omega
      intro v5 w5 hown5 hgr5 _ hat5
      have hp5 := Hsx.out.push ⟨⟨s', zs', u'⟩, A', c'⟩ RW.out (by rw [hlen]; exact hown5) hgr5 (by first | exact hat5 | simpa using hat5)
      have Hs5 := Lib.hid hp5
      clear hp5 hown5 hgr5 hat5 q0 q1 q2
      have z5 : w1.heap.size ≤ w5.heap.size := Hs5.out.low
      have hans := Hs5.out.ans
      rw [htl] at hans
      have Hans := Lib.hid hans
      clear hans
      go_wp2_with (at_builtin; refine wpList_append_own_at _ rfl _ _ 29 rfl w1.heap.size 3 i0 (.int .i64 0) 1 8 Try.underlying29 Hi0.out Hz0.out Hz1.out Hz2.out rfl (by decide) _ k (ts.map (Value.int .i64)) rfl (Hans.out.alloc _) ⟨w5.heap.size, 0, none⟩ 1 1 [.int .i64 ((-1))] rfl rfl ?d1h ?d2h ?d3h ?d4h ?d5h ?_)
      case d1h => exact new_one_at rfl _ _
      case d2h => simp [Value.oneCell']
      case d3h => unfold maxLen; omega
      case d4h => omega
      case d5h => simp; omega
      intro v6 w6 hown6 hgr6 _ hat6
      have hp6 := Hs5.out.tell (x := ((-1))) (by rw [htl]; exact hown6) hgr6 (by first | exact hat6 | simpa using hat6)
      have Hs6 := Lib.hid hp6
      clear hp6 hown6 hgr6 hat6
      go_wp2
      go_roundw
      case rel => exact ⟨_, _, k + 1, _, _, rfl, rfl, by omega, by go_num, Hs6.out, Hhi.out.step (by have := Hn.out; omega) Heb.out Hex.out⟩
      case measure => simp [intOf]; omega
    · have hkn : k = n := by omega
      have HF : Hid (HistEnd w c evs v va wr) := ⟨w1.heap.size, w1, es, ts, by omega, B.out, Hst.out, by rw [Hn.out, ← hkn]; exact Hhi.out, Nat.le_refl _⟩
      clear Hst
      go_wp2
      exact bodyPost_ret (v := .tuple #[v, va]) (by simp [results, Try.results47, go_sem]) rfl ⟨HB.out, .inr ⟨Hc.out, v, va, rfl, HF.out⟩⟩
end Go.Proofs.Ytmmoelijpemlfaa.Bk
