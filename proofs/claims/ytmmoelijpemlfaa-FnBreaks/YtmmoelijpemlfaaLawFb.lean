/- The law on breakers walked. -/
import Derived.Test.YtmmoelijpemlfaaHi6
import Derived.Test.YtmmoelijpemlfaaBdr2
namespace Go.Proofs.Ytmmoelijpemlfaa.Bk
open Go.RowKit Go.Deep Base Rw Tick Cf

/-- The program's configuration in a box. -/
def IC (w : World) (g : Nat) (c : Nat → Int) : Prop := w.heap[g]? = some (.cells #[.int .i64 (c 0), .int .i64 (c 1), .int .i64 (c 2), .int .i64 (c 3), .int .i64 (c 4), .int .i64 (c 5), .int .i64 (c 6), .int .i64 (c 7), .int .i64 (c 8), .int .i64 (c 9), .int .i64 (c 10), .int .i64 (c 11), .int .i64 (c 12), .int .i64 (c 13)] 25 (0, 0))
theorem IC.lt {w : World} {g : Nat} {c : Nat → Int} (h : IC w g c) : g < w.heap.size := (Array.getElem?_eq_some_iff.1 h).1
theorem IC.below {w w' : World} {g B : Nat} {c : Nat → Int} (h : IC w g c) (hb : Below B w w') (hB : g < B) : IC w' g c := (hb.block g hB).trans h
theorem span_few (c : Nat → Int) (evs : List (Int × Int)) (h : evs.length ≤ 1048576) : (spanR c evs).length ≤ 1048576 := by
  unfold spanR
  split
  · exact Nat.le_trans (spL_few c evs _) h
  · exact Nat.zero_le _
theorem play_few (c : Nat → Int) (evs : List (Int × Int)) : (playR c evs).1.fails.length ≤ 20 ∧ (playR c evs).2.length ≤ 300 := by
  unfold playR
  split
  · next hc =>
    unfold canH at hc
    simp only [Bool.and_eq_true, decide_eq_true_eq] at hc
    refine ⟨(run_ok (c := c) (evs.take evs.length) zBr_ok).few, ?_⟩
    show (hT c evs evs.length).length ≤ 300
    rw [hT_len (Nat.le_refl _)]
    exact hc.2
  · exact ⟨Nat.zero_le _, Nat.zero_le _⟩

set_option maxHeartbeats 400000 in
theorem same_same (A1 A2 : Option Addr) (n c1 c2 : Nat) (zs : List Int) (w : World) (hn : zs.length = n) (hm : n ≤ 1048576) (h1 : Ints w A1 zs) (h2 : Ints w A2 zs) :
    Calls Try.prog 15 #[.slice A1 n c1, .slice A2 n c2] w fun e w' => e = .returned (.bool true) ∧ Below w.heap.size w w' := by
  have Hn := Lib.hid hn
  clear hn
  have H1 := Lib.hid h1
  have H2 := Lib.hid h2
  clear h1 h2
  go_enter Try.func15, Try.ntmps15
  go_wp2
  go_loopw [5] (fun i wr => ∃ k : Nat, k ≤ n ∧ i = .int .i64 k ∧ Below w.heap.size w wr) (fun i _ => n - (intOf i).toNat)
  case atStart => exact ⟨0, Nat.zero_le _, rfl, Below.refl _ _⟩
  case round =>
    obtain ⟨k, hk, rfl, hr⟩ := hrel
    by_cases hlt : k < n
    · obtain ⟨b, off, rfl, hc⟩ := H1.out.below hr (by have := Hn.out; omega)
      have hc1 := hc k (by have := Hn.out; omega)
      clear hc
      obtain ⟨b', off', rfl, hc⟩ := H2.out.below hr (by have := Hn.out; omega)
      have hc2 := hc k (by have := Hn.out; omega)
      clear hc
      generalize zs.getD k 0 = z at hc1 hc2
      go_wp2
      go_region
      all_goals
        go_wp2
        go_roundw
        case rel => exact ⟨k + 1, by omega, by go_num, by repeat (first | exact hr | apply Below.drew)⟩
        case measure => simp [intOf]; omega
    · go_wp2
      go_ret
      exact ⟨rfl, hr⟩

/-- The breaker behind k failures at 100. -/
def fr (c : Nat → Int) (k : Nat) : Br := if (k : Int) = c 11 then openR c 100 else hurt k
theorem fr_next {c : Nat → Int} (hok : okC c = true) {k : Nat} (h : (k : Int) < c 11) : failR c (fr c k) 100 = (fr c (k + 1), true) := by
  have e : fr c k = hurt k := by unfold fr; rw [if_neg (by omega)]
  rw [e, hurt_fail hok (by omega)]
  unfold fr
  by_cases h2 : (k : Int) + 1 = c 11
  · rw [if_pos h2, if_pos (by omega)]
  · rw [if_neg h2, if_neg (by omega)]
theorem fr_state {c : Nat → Int} (k : Nat) : (fr c k).state = if (k : Int) = c 11 then 1 else 0 := by
  unfold fr
  split
  · rfl
  · rfl
theorem fr_few {c : Nat → Int} (hok : okC c = true) {k : Nat} (h : (k : Int) ≤ c 11) : (fr c k).fails.length ≤ 20 := by
  have := okC_iff.1 hok
  unfold fr
  split
  · exact Nat.zero_le _
  · show (List.replicate k (100 : Int)).length ≤ 20
    simp
    omega

/-- Between two rounds of the law's loop: the box of the fresh breaker, the configuration's. -/
def FrSt (w wr : World) (fb kb : Nat) (c : Nat → Int) (k : Nat) : Prop :=
  ∃ A' c', PB wr fb (.int .i64 (fr c k).state) (.slice A' (fr c k).fails.length c') (.int .i64 (fr c k).till) ∧ IV wr (fb + 1) wr.heap.size A' (fr c k).fails ∧ IC wr kb c ∧ Below w.heap.size w wr ∧ w.heap.size ≤ fb ∧ kb < fb
theorem FrSt.next {w wr w5 : World} {fb kb : Nat} {c : Nat → Int} {k : Nat} {A3 : Option Addr} {c3 : Nat} (h : FrSt w wr fb kb c k) (hb : Below wr.heap.size wr w5) (hv : IV w5 wr.heap.size w5.heap.size A3 (fr c (k + 1)).fails) (o : Obj) :
    FrSt w ((((w5.setCell ⟨fb, 0, none⟩ (.int .i64 (fr c (k + 1)).state)).setCell ⟨fb, 1, none⟩ (.slice A3 (fr c (k + 1)).fails.length c3)).setCell ⟨fb, 2, none⟩ (.int .i64 (fr c (k + 1)).till)).alloc o) fb kb c (k + 1) := by
  obtain ⟨A', c', h1, h2, h3, h4, h5, h6⟩ := h
  have hlt := h1.lt
  have hz := hb.size
  have P5 := h1.below hb hlt
  have hsz : (((w5.setCell ⟨fb, 0, none⟩ (.int .i64 (fr c (k + 1)).state)).setCell ⟨fb, 1, none⟩ (.slice A3 (fr c (k + 1)).fails.length c3)).setCell ⟨fb, 2, none⟩ (.int .i64 (fr c (k + 1)).till)).heap.size = w5.heap.size := by simp [World.setCell]
  have P6 := ((P5.set0 (.int .i64 (fr c (k + 1)).state)).set1 (.slice A3 (fr c (k + 1)).fails.length c3)).set2 (.int .i64 (fr c (k + 1)).till)
  refine ⟨A3, c3, P6.below (bel_alloc _ o) (by rw [hsz]; omega), ?_, ?_, ?_, h5, h6⟩
  · refine IV.wide (lo := wr.heap.size) (hi := w5.heap.size) ?_ (by omega) (by rw [World.size_alloc, hsz]; omega)
    refine IV.below ?_ (bel_alloc _ o) (by rw [hsz]; exact Nat.le_refl _)
    exact iv_set (iv_set (iv_set hv (.inl hlt) _) (.inl hlt) _) (.inl hlt) _
  · have i5 := h3.below hb h3.lt
    have hk : ∀ u o' (W : World), IC W kb c → IC (W.setCell ⟨fb, o', none⟩ u) kb c := fun u o' W hW => (Below.heap_setCell W ⟨fb, o', none⟩ u kb (by show kb ≠ fb; omega)).trans hW
    exact (hk _ _ _ (hk _ _ _ (hk _ _ _ i5))).below (bel_alloc _ o) (by rw [hsz]; omega)
  · have b5 := h4.trans (hb.mono h4.size)
    exact (((b5.setCell h5 _).setCell h5 _).setCell h5 _).trans ((bel_alloc _ o).mono (by rw [hsz]; have := b5.size; omega))

set_option maxRecDepth 100000 in
set_option maxHeartbeats 8000000 in
theorem lawBreaks (A : Option Addr) (n cap : Nat) (zs : List Int) (w : World) (hn : zs.length = n) (hm : n ≤ maxLen) (hb : Draw.Bytes w w.heap.size A zs) :
    Calls Try.prog 3 #[.slice A n cap] w fun e w' => e = .returned (.bool true) ∧ Below w.heap.size w w' := by
  have HBy := Lib.hid hb
  have HN := Lib.hid hn
  clear hb hn
  by_cases hbig : 1048576 < n
  · have hd : decide (1048576 < n) = true := decide_eq_true hbig
    go_enter Try.func3, Try.ntmps3
    go_wp2_with fail
    refine (Draw.big_any A n cap _ hm).mono ?_
    rintro e w' ⟨rfl, rfl⟩
    rw [hd]
    go_wp2
    go_ret
    exact ⟨rfl, Below.refl _ _⟩
  have hd : decide (1048576 < n) = false := decide_eq_false hbig
  go_enter Try.func3, Try.ntmps3
  go_wp2_with fail
  refine (Draw.big_any A n cap _ hm).mono ?_
  rintro e w' ⟨rfl, rfl⟩
  rw [hd]
  clear hd
  go_wp2_with fail
  refine (Draw.drawPlay_any A n cap zs w HN.out (by omega) HBy.out).mono ?_
  rintro e w1 ⟨c, Ae, ce, evs, rfl, hev, hel, b1⟩
  have B := Lib.hid b1
  have HE := Lib.hid hev
  have z1 : w.heap.size ≤ w1.heap.size := b1.size
  clear hev b1 HBy HN
  go_wp2_with fail
  obtain ⟨w2, hw2⟩ : ∃ W', w1.alloc (.cells #[.int .i64 (c 0), .int .i64 (c 1), .int .i64 (c 2), .int .i64 (c 3), .int .i64 (c 4), .int .i64 (c 5), .int .i64 (c 6), .int .i64 (c 7), .int .i64 (c 8), .int .i64 (c 9), .int .i64 (c 10), .int .i64 (c 11), .int .i64 (c 12), .int .i64 (c 13)] 25) = W' := ⟨_, rfl⟩
  have b2 : Below w1.heap.size w1 w2 := by rw [← hw2]; exact bel_alloc _ _
  have KB : Hid (IC w2 w1.heap.size c) := by rw [← hw2]; exact heap_alloc_new w1 _
  have z2 : w1.heap.size < w2.heap.size := KB.out.lt
  have E2 := Lib.hid (HE.out.below b2)
  replace B := Lib.hid (bel_trans B.out b2)
  rw [hw2]
  clear hw2 b2 HE
  generalize hkb : w1.heap.size = kb at KB z1 z2 ⊢
  clear hkb
  obtain ⟨r, hr⟩ : ∃ r, playR c evs = r := ⟨_, rfl⟩
  have hfew : r.1.fails.length ≤ 20 ∧ r.2.length ≤ 300 := by rw [← hr]; exact play_few c evs
  have HSP := Lib.hid (fun W hI => specPlay_any c Ae evs.length ce evs W rfl (by omega) hI)
  have HIM := Lib.hid (fun W hI => implPlay_any c Ae evs.length ce evs W rfl (by omega) hI)
  rw [hr] at HSP HIM
  have Hr := Lib.hid hr
  clear hr
  obtain ⟨⟨s', zs', u'⟩, ts⟩ := r
  dsimp only at hfew
  obtain ⟨hf1, hf2⟩ := hfew
  have hf3 : zs'.length ≤ 1048576 := by omega
  have hf4 : ts.length ≤ 1048576 := by omega
  refine (HSP.out _ E2.out).mono ?_
  rintro e w3 ⟨Aw, cw, Lw, lw, gw, hw, rfl, vw, tw, i1w, i2w, i3w, i4w, i5w, b3⟩
  have z3 : w2.heap.size ≤ w3.heap.size := b3.size
  replace B := Lib.hid (bel_trans B.out b3)
  replace KB := Lib.hid (KB.out.below b3 (by omega))
  replace E2 := Lib.hid (E2.out.below b3)
  clear b3
  have Vw := Lib.hid vw
  have Tw := Lib.hid tw
  clear vw tw
  dsimp only at Vw Tw ⊢
  have x0 : w3.cell? ⟨kb, 0, none⟩ = some (.int .i64 (c 0)) := cell_of_row _ _ 0 _ _ (0, 0) KB.out
  have x1 : w3.cell? ⟨kb, 1, none⟩ = some (.int .i64 (c 1)) := cell_of_row _ _ 1 _ _ (0, 0) KB.out
  have x2 : w3.cell? ⟨kb, 2, none⟩ = some (.int .i64 (c 2)) := cell_of_row _ _ 2 _ _ (0, 0) KB.out
  have x3 : w3.cell? ⟨kb, 3, none⟩ = some (.int .i64 (c 3)) := cell_of_row _ _ 3 _ _ (0, 0) KB.out
  have x4 : w3.cell? ⟨kb, 4, none⟩ = some (.int .i64 (c 4)) := cell_of_row _ _ 4 _ _ (0, 0) KB.out
  have x5 : w3.cell? ⟨kb, 5, none⟩ = some (.int .i64 (c 5)) := cell_of_row _ _ 5 _ _ (0, 0) KB.out
  have x6 : w3.cell? ⟨kb, 6, none⟩ = some (.int .i64 (c 6)) := cell_of_row _ _ 6 _ _ (0, 0) KB.out
  have x7 : w3.cell? ⟨kb, 7, none⟩ = some (.int .i64 (c 7)) := cell_of_row _ _ 7 _ _ (0, 0) KB.out
  have x8 : w3.cell? ⟨kb, 8, none⟩ = some (.int .i64 (c 8)) := cell_of_row _ _ 8 _ _ (0, 0) KB.out
  have x9 : w3.cell? ⟨kb, 9, none⟩ = some (.int .i64 (c 9)) := cell_of_row _ _ 9 _ _ (0, 0) KB.out
  have x10 : w3.cell? ⟨kb, 10, none⟩ = some (.int .i64 (c 10)) := cell_of_row _ _ 10 _ _ (0, 0) KB.out
  have x11 : w3.cell? ⟨kb, 11, none⟩ = some (.int .i64 (c 11)) := cell_of_row _ _ 11 _ _ (0, 0) KB.out
  have x12 : w3.cell? ⟨kb, 12, none⟩ = some (.int .i64 (c 12)) := cell_of_row _ _ 12 _ _ (0, 0) KB.out
  have x13 : w3.cell? ⟨kb, 13, none⟩ = some (.int .i64 (c 13)) := cell_of_row _ _ 13 _ _ (0, 0) KB.out
  have xl := KB.out.lt
  go_wp2_with fail
  clear x0 x1 x2 x3 x4 x5 x6 x7 x8 x9 x10 x11 x12 x13 xl
  obtain ⟨w4, hw4⟩ : ∃ W', w3.alloc (.cells #[.int .i64 s', .slice Aw zs'.length cw, .int .i64 u'] 31) = W' := ⟨_, rfl⟩
  have b4 : Below w3.heap.size w3 w4 := by rw [← hw4]; exact bel_alloc _ _
  have PW : Hid (PB w4 w3.heap.size (.int .i64 s') (.slice Aw zs'.length cw) (.int .i64 u')) := by rw [← hw4]; exact heap_alloc_new w3 _
  have z4 : w3.heap.size < w4.heap.size := PW.out.lt
  rw [hw4]
  clear hw4
  replace B := Lib.hid (bel_trans B.out b4)
  replace KB := Lib.hid (KB.out.below b4 (by omega))
  replace E2 := Lib.hid (E2.out.below b4)
  replace Vw := Lib.hid (Vw.out.below b4 (by omega))
  replace Tw := Lib.hid (Tw.out.below b4 (by omega))
  clear b4
  refine (HIM.out _ E2.out).mono ?_
  rintro e w5 ⟨Ag, cg, Lg, lg, gg, hg, rfl, vg, tg, i1g, i2g, i3g, i4g, i5g, b5⟩
  have z5 : w4.heap.size ≤ w5.heap.size := b5.size
  replace B := Lib.hid (bel_trans B.out b5)
  replace KB := Lib.hid (KB.out.below b5 (by omega))
  replace E2 := Lib.hid (E2.out.below b5)
  replace Vw := Lib.hid (Vw.out.below b5 (by omega))
  replace Tw := Lib.hid (Tw.out.below b5 (by omega))
  replace PW := Lib.hid (PW.out.below b5 (by omega))
  clear b5
  have Vg := Lib.hid vg
  have Tg := Lib.hid tg
  clear vg tg
  dsimp only at Vg Tg ⊢
  go_wp2_with fail
  obtain ⟨w6, hw6⟩ : ∃ W', w5.alloc (.cells #[.int .i64 s', .slice Ag zs'.length cg, .int .i64 u'] 31) = W' := ⟨_, rfl⟩
  have b6 : Below w5.heap.size w5 w6 := by rw [← hw6]; exact bel_alloc _ _
  have PG : Hid (PB w6 w5.heap.size (.int .i64 s') (.slice Ag zs'.length cg) (.int .i64 u')) := by rw [← hw6]; exact heap_alloc_new w5 _
  have z6 : w5.heap.size < w6.heap.size := PG.out.lt
  rw [hw6]
  clear hw6
  replace B := Lib.hid (bel_trans B.out b6)
  replace KB := Lib.hid (KB.out.below b6 (by omega))
  replace E2 := Lib.hid (E2.out.below b6)
  replace Vw := Lib.hid (Vw.out.below b6 (by omega))
  replace Tw := Lib.hid (Tw.out.below b6 (by omega))
  replace PW := Lib.hid (PW.out.below b6 (by omega))
  replace Vg := Lib.hid (Vg.out.below b6 (by omega))
  replace Tg := Lib.hid (Tg.out.below b6 (by omega))
  clear b6
  have HS : Hid (Below w6.heap.size w6 w6.drew) := (Below.refl _ _).drew
  refine wp_region_held_drew (S := Below w6.heap.size w6) (by kernel_rfl) HS.out (fun _ => ?_)
  obtain ⟨v0, hv0⟩ : ∃ W', w6.drew = W' := ⟨_, rfl⟩
  rw [hv0] at HS ⊢
  clear hv0
  refine wpAnyH_take (i := 0) (v := .slice Lg ts.length lg) rfl (by kernel_rfl) (by kernel_rfl) (by kernel_rfl) (fun _ _ _ h => h) (.inl ⟨rfl, fun V hS => ?y0⟩) HS.out ?_
  case y0 =>
    clear hS
    go_simp
  go_simp
  refine wpAnyH_take (i := 1) (v := .slice Lw ts.length lw) rfl (by kernel_rfl) (by kernel_rfl) (by kernel_rfl) (fun _ _ _ h => h) (.inl ⟨rfl, fun V hS => ?y0⟩) HS.out ?_
  case y0 =>
    clear hS
    go_simp
  go_simp
  refine wpAnyH_ready (rs := [2]) (by kernel_rfl) (by simp) (AllReadyH.cons rfl (fun J hJ => ?_) AllReadyH.nil)
  go_simp
  refine (same_same Lg Lw _ lg lw ts _ rfl hf4 (Tg.out.ints.below HS.out) (Tw.out.ints.below HS.out)).mono ?_
  rintro e v1 ⟨rfl, bq⟩
  have zq1 : v0.heap.size ≤ v1.heap.size := bq.size
  replace HS := Lib.hid (HS.out.trans (bq.mono (HS.out.size)))
  clear bq
  refine hJ.out _ _ HS.out (fun _ => ?_)
  clear hJ J
  go_simp
  refine wpAnyH_take (i := 3) (v := .bool false) rfl (by kernel_rfl) (by kernel_rfl) (by kernel_rfl) (fun _ _ _ h => h) (.inl ⟨rfl, fun V hS => ?y0⟩) HS.out ?_
  case y0 =>
    clear hS
    go_simp
  go_simp
  refine wpAnyH_take (i := 4) (v := .bool false) rfl (by kernel_rfl) (by kernel_rfl) (by kernel_rfl) (fun _ _ _ h => h) (.inl ⟨rfl, fun V hS => ?y0⟩) HS.out ?_
  case y0 =>
    clear hS
    go_simp
  go_simp
  refine wpAnyH_take (i := 5) (v := .pointer (some ⟨w5.heap.size, 0, none⟩)) rfl (by kernel_rfl) (by kernel_rfl) (by kernel_rfl) (fun _ _ _ h => h) (.inl ⟨rfl, fun V hS => ?y0⟩) HS.out ?_
  case y0 =>
    clear hS
    go_simp
  go_simp
  refine wpAnyH_take (i := 6) (v := .int .i64 s') rfl (by kernel_rfl) (by kernel_rfl) (by kernel_rfl) (fun _ _ _ h => h) (.inl ⟨rfl, fun V hS => ?y0⟩) HS.out ?_
  case y0 =>
    obtain ⟨q0, q1, q2, q3⟩ := (PG.out.below hS (by omega)).cells
    clear hS q3
    go_simp
  go_simp
  refine wpAnyH_take (i := 7) (v := .pointer (some ⟨w3.heap.size, 0, none⟩)) rfl (by kernel_rfl) (by kernel_rfl) (by kernel_rfl) (fun _ _ _ h => h) (.inl ⟨rfl, fun V hS => ?y0⟩) HS.out ?_
  case y0 =>
    clear hS
    go_simp
  go_simp
  refine wpAnyH_take (i := 8) (v := .int .i64 s') rfl (by kernel_rfl) (by kernel_rfl) (by kernel_rfl) (fun _ _ _ h => h) (.inl ⟨rfl, fun V hS => ?y0⟩) HS.out ?_
  case y0 =>
    obtain ⟨q0, q1, q2, q3⟩ := (PW.out.below hS (by omega)).cells
    clear hS q3
    go_simp
  go_simp
  refine wpAnyH_take (i := 9) (v := .bool false) rfl (by kernel_rfl) (by kernel_rfl) (by kernel_rfl) (fun _ _ _ h => h) (.inl ⟨rfl, fun V hS => ?y0⟩) HS.out ?_
  case y0 =>
    clear hS
    go_simp
  go_simp
  refine wpAnyH_take (i := 10) (v := .bool false) rfl (by kernel_rfl) (by kernel_rfl) (by kernel_rfl) (fun _ _ _ h => h) (.inl ⟨rfl, fun V hS => ?y0⟩) HS.out ?_
  case y0 =>
    clear hS
    go_simp
  go_simp
  refine wpAnyH_take (i := 11) (v := .bool false) rfl (by kernel_rfl) (by kernel_rfl) (by kernel_rfl) (fun _ _ _ h => h) (.inl ⟨rfl, fun V hS => ?y0⟩) HS.out ?_
  case y0 =>
    clear hS
    go_simp
  go_simp
  refine wpAnyH_take (i := 12) (v := .pointer (some ⟨w5.heap.size, 2, none⟩)) rfl (by kernel_rfl) (by kernel_rfl) (by kernel_rfl) (fun _ _ _ h => h) (.inl ⟨rfl, fun V hS => ?y0⟩) HS.out ?_
  case y0 =>
    clear hS
    go_simp
  go_simp
  refine wpAnyH_take (i := 13) (v := .int .i64 u') rfl (by kernel_rfl) (by kernel_rfl) (by kernel_rfl) (fun _ _ _ h => h) (.inl ⟨rfl, fun V hS => ?y0⟩) HS.out ?_
  case y0 =>
    obtain ⟨q0, q1, q2, q3⟩ := (PG.out.below hS (by omega)).cells
    clear hS q3
    go_simp
  go_simp
  refine wpAnyH_take (i := 14) (v := .pointer (some ⟨w3.heap.size, 2, none⟩)) rfl (by kernel_rfl) (by kernel_rfl) (by kernel_rfl) (fun _ _ _ h => h) (.inl ⟨rfl, fun V hS => ?y0⟩) HS.out ?_
  case y0 =>
    clear hS
    go_simp
  go_simp
  refine wpAnyH_take (i := 15) (v := .int .i64 u') rfl (by kernel_rfl) (by kernel_rfl) (by kernel_rfl) (fun _ _ _ h => h) (.inl ⟨rfl, fun V hS => ?y0⟩) HS.out ?_
  case y0 =>
    obtain ⟨q0, q1, q2, q3⟩ := (PW.out.below hS (by omega)).cells
    clear hS q3
    go_simp
  go_simp
  refine wpAnyH_take (i := 16) (v := .bool false) rfl (by kernel_rfl) (by kernel_rfl) (by kernel_rfl) (fun _ _ _ h => h) (.inl ⟨rfl, fun V hS => ?y0⟩) HS.out ?_
  case y0 =>
    clear hS
    go_simp
  go_simp
  refine wpAnyH_take (i := 17) (v := .bool false) rfl (by kernel_rfl) (by kernel_rfl) (by kernel_rfl) (fun _ _ _ h => h) (.inl ⟨rfl, fun V hS => ?y0⟩) HS.out ?_
  case y0 =>
    clear hS
    go_simp
  go_simp
  refine wpAnyH_take (i := 18) (v := .bool false) rfl (by kernel_rfl) (by kernel_rfl) (by kernel_rfl) (fun _ _ _ h => h) (.inl ⟨rfl, fun V hS => ?y0⟩) HS.out ?_
  case y0 =>
    clear hS
    go_simp
  go_simp
  refine wpAnyH_take (i := 19) (v := .pointer (some ⟨w5.heap.size, 1, none⟩)) rfl (by kernel_rfl) (by kernel_rfl) (by kernel_rfl) (fun _ _ _ h => h) (.inl ⟨rfl, fun V hS => ?y0⟩) HS.out ?_
  case y0 =>
    clear hS
    go_simp
  go_simp
  refine wpAnyH_take (i := 20) (v := .slice Ag zs'.length cg) rfl (by kernel_rfl) (by kernel_rfl) (by kernel_rfl) (fun _ _ _ h => h) (.inl ⟨rfl, fun V hS => ?y0⟩) HS.out ?_
  case y0 =>
    obtain ⟨q0, q1, q2, q3⟩ := (PG.out.below hS (by omega)).cells
    clear hS q3
    go_simp
  go_simp
  refine wpAnyH_take (i := 21) (v := .pointer (some ⟨w3.heap.size, 1, none⟩)) rfl (by kernel_rfl) (by kernel_rfl) (by kernel_rfl) (fun _ _ _ h => h) (.inl ⟨rfl, fun V hS => ?y0⟩) HS.out ?_
  case y0 =>
    clear hS
    go_simp
  go_simp
  refine wpAnyH_take (i := 22) (v := .slice Aw zs'.length cw) rfl (by kernel_rfl) (by kernel_rfl) (by kernel_rfl) (fun _ _ _ h => h) (.inl ⟨rfl, fun V hS => ?y0⟩) HS.out ?_
  case y0 =>
    obtain ⟨q0, q1, q2, q3⟩ := (PW.out.below hS (by omega)).cells
    clear hS q3
    go_simp
  go_simp
  refine wpAnyH_ready (rs := [23]) (by kernel_rfl) (by simp) (AllReadyH.cons rfl (fun J hJ => ?_) AllReadyH.nil)
  go_simp
  refine (same_same Ag Aw _ cg cw zs' _ rfl hf3 (Vg.out.ints.below HS.out) (Vw.out.ints.below HS.out)).mono ?_
  rintro e v2 ⟨rfl, bq⟩
  have zq2 : v1.heap.size ≤ v2.heap.size := bq.size
  replace HS := Lib.hid (HS.out.trans (bq.mono (HS.out.size)))
  clear bq
  refine hJ.out _ _ HS.out (fun _ => ?_)
  clear hJ J
  go_simp
  refine wpAnyH_take (i := 24) (v := .bool false) rfl (by kernel_rfl) (by kernel_rfl) (by kernel_rfl) (fun _ _ _ h => h) (.inl ⟨rfl, fun V hS => ?y0⟩) HS.out ?_
  case y0 =>
    clear hS
    go_simp
  go_simp
  refine wpAnyH_take (i := 25) (v := .bool false) rfl (by kernel_rfl) (by kernel_rfl) (by kernel_rfl) (fun _ _ _ h => h) (.inl ⟨rfl, fun V hS => ?y0⟩) HS.out ?_
  case y0 =>
    clear hS
    go_simp
  go_simp
  refine wpAnyH_take (i := 26) (v := .bool false) rfl (by kernel_rfl) (by kernel_rfl) (by kernel_rfl) (fun _ _ _ h => h) (.inl ⟨rfl, fun V hS => ?y0⟩) HS.out ?_
  case y0 =>
    clear hS
    go_simp
  go_simp
  refine wpAnyH_take (i := 27) (v := .agg #[.int .i64 (c 0), .int .i64 (c 1), .int .i64 (c 2), .int .i64 (c 3), .int .i64 (c 4), .int .i64 (c 5), .int .i64 (c 6), .int .i64 (c 7), .int .i64 (c 8), .int .i64 (c 9), .int .i64 (c 10), .int .i64 (c 11), .int .i64 (c 12), .int .i64 (c 13)]) rfl (by kernel_rfl) (by kernel_rfl) (by kernel_rfl) (fun _ _ _ h => h) (.inl ⟨rfl, fun V hS => ?y0⟩) HS.out ?_
  case y0 =>
    have hk9 := KB.out.below hS (by omega)
    have q0 : V.cell? ⟨kb, 0, none⟩ = some (.int .i64 (c 0)) := cell_of_row _ _ 0 _ _ (0, 0) hk9
    have q1 : V.cell? ⟨kb, 1, none⟩ = some (.int .i64 (c 1)) := cell_of_row _ _ 1 _ _ (0, 0) hk9
    have q2 : V.cell? ⟨kb, 2, none⟩ = some (.int .i64 (c 2)) := cell_of_row _ _ 2 _ _ (0, 0) hk9
    have q3 : V.cell? ⟨kb, 3, none⟩ = some (.int .i64 (c 3)) := cell_of_row _ _ 3 _ _ (0, 0) hk9
    have q4 : V.cell? ⟨kb, 4, none⟩ = some (.int .i64 (c 4)) := cell_of_row _ _ 4 _ _ (0, 0) hk9
    have q5 : V.cell? ⟨kb, 5, none⟩ = some (.int .i64 (c 5)) := cell_of_row _ _ 5 _ _ (0, 0) hk9
    have q6 : V.cell? ⟨kb, 6, none⟩ = some (.int .i64 (c 6)) := cell_of_row _ _ 6 _ _ (0, 0) hk9
    have q7 : V.cell? ⟨kb, 7, none⟩ = some (.int .i64 (c 7)) := cell_of_row _ _ 7 _ _ (0, 0) hk9
    have q8 : V.cell? ⟨kb, 8, none⟩ = some (.int .i64 (c 8)) := cell_of_row _ _ 8 _ _ (0, 0) hk9
    have q9 : V.cell? ⟨kb, 9, none⟩ = some (.int .i64 (c 9)) := cell_of_row _ _ 9 _ _ (0, 0) hk9
    have q10 : V.cell? ⟨kb, 10, none⟩ = some (.int .i64 (c 10)) := cell_of_row _ _ 10 _ _ (0, 0) hk9
    have q11 : V.cell? ⟨kb, 11, none⟩ = some (.int .i64 (c 11)) := cell_of_row _ _ 11 _ _ (0, 0) hk9
    have q12 : V.cell? ⟨kb, 12, none⟩ = some (.int .i64 (c 12)) := cell_of_row _ _ 12 _ _ (0, 0) hk9
    have q13 : V.cell? ⟨kb, 13, none⟩ = some (.int .i64 (c 13)) := cell_of_row _ _ 13 _ _ (0, 0) hk9
    clear hk9 hS
    go_simp
  go_simp
  refine wpAnyH_take (i := 28) (v := .slice Ae evs.length ce) rfl (by kernel_rfl) (by kernel_rfl) (by kernel_rfl) (fun _ _ _ h => h) (.inl ⟨rfl, fun V hS => ?y0⟩) HS.out ?_
  case y0 =>
    clear hS
    go_simp
  go_simp
  refine wpAnyH_take (i := 30) (v := .agg #[.int .i64 (c 0), .int .i64 (c 1), .int .i64 (c 2), .int .i64 (c 3), .int .i64 (c 4), .int .i64 (c 5), .int .i64 (c 6), .int .i64 (c 7), .int .i64 (c 8), .int .i64 (c 9), .int .i64 (c 10), .int .i64 (c 11), .int .i64 (c 12), .int .i64 (c 13)]) rfl (by kernel_rfl) (by kernel_rfl) (by kernel_rfl) (fun _ _ _ h => h) (.inl ⟨rfl, fun V hS => ?y0⟩) HS.out ?_
  case y0 =>
    have hk9 := KB.out.below hS (by omega)
    have q0 : V.cell? ⟨kb, 0, none⟩ = some (.int .i64 (c 0)) := cell_of_row _ _ 0 _ _ (0, 0) hk9
    have q1 : V.cell? ⟨kb, 1, none⟩ = some (.int .i64 (c 1)) := cell_of_row _ _ 1 _ _ (0, 0) hk9
    have q2 : V.cell? ⟨kb, 2, none⟩ = some (.int .i64 (c 2)) := cell_of_row _ _ 2 _ _ (0, 0) hk9
    have q3 : V.cell? ⟨kb, 3, none⟩ = some (.int .i64 (c 3)) := cell_of_row _ _ 3 _ _ (0, 0) hk9
    have q4 : V.cell? ⟨kb, 4, none⟩ = some (.int .i64 (c 4)) := cell_of_row _ _ 4 _ _ (0, 0) hk9
    have q5 : V.cell? ⟨kb, 5, none⟩ = some (.int .i64 (c 5)) := cell_of_row _ _ 5 _ _ (0, 0) hk9
    have q6 : V.cell? ⟨kb, 6, none⟩ = some (.int .i64 (c 6)) := cell_of_row _ _ 6 _ _ (0, 0) hk9
    have q7 : V.cell? ⟨kb, 7, none⟩ = some (.int .i64 (c 7)) := cell_of_row _ _ 7 _ _ (0, 0) hk9
    have q8 : V.cell? ⟨kb, 8, none⟩ = some (.int .i64 (c 8)) := cell_of_row _ _ 8 _ _ (0, 0) hk9
    have q9 : V.cell? ⟨kb, 9, none⟩ = some (.int .i64 (c 9)) := cell_of_row _ _ 9 _ _ (0, 0) hk9
    have q10 : V.cell? ⟨kb, 10, none⟩ = some (.int .i64 (c 10)) := cell_of_row _ _ 10 _ _ (0, 0) hk9
    have q11 : V.cell? ⟨kb, 11, none⟩ = some (.int .i64 (c 11)) := cell_of_row _ _ 11 _ _ (0, 0) hk9
    have q12 : V.cell? ⟨kb, 12, none⟩ = some (.int .i64 (c 12)) := cell_of_row _ _ 12 _ _ (0, 0) hk9
    have q13 : V.cell? ⟨kb, 13, none⟩ = some (.int .i64 (c 13)) := cell_of_row _ _ 13 _ _ (0, 0) hk9
    clear hk9 hS
    go_simp
  go_simp
  refine wpAnyH_take (i := 31) (v := .slice Ae evs.length ce) rfl (by kernel_rfl) (by kernel_rfl) (by kernel_rfl) (fun _ _ _ h => h) (.inl ⟨rfl, fun V hS => ?y0⟩) HS.out ?_
  case y0 =>
    clear hS
    go_simp
  go_simp
  obtain ⟨sp, hsp⟩ : ∃ sp, spanR c evs = sp := ⟨_, rfl⟩
  have hf5 : sp.length ≤ 1048576 := by rw [← hsp]; exact span_few c evs (by omega)
  have HO1 := Lib.hid (fun W hI => implSpans_any c Ae evs.length ce evs W rfl (by omega) hI)
  have HO2 := Lib.hid (fun W hI => specSpans_any c Ae evs.length ce evs W rfl (by omega) hI)
  rw [hsp] at HO1 HO2
  clear hsp
  refine wpAnyH_ready (rs := [29]) (by kernel_rfl) (by simp) (AllReadyH.cons rfl (fun J hJ => ?_) AllReadyH.nil)
  go_simp
  refine (HO1.out _ (E2.out.below HS.out)).mono ?_
  rintro e v3 ⟨Ao, co, rfl, vo, bq⟩
  have zq3 : v2.heap.size ≤ v3.heap.size := bq.size
  have VO := Lib.hid vo
  clear vo
  replace HS := Lib.hid (HS.out.trans (bq.mono (HS.out.size)))
  clear bq
  refine hJ.out _ _ HS.out (fun _ => ?_)
  clear hJ J
  go_simp
  refine wpAnyH_ready (rs := [32]) (by kernel_rfl) (by simp) (AllReadyH.cons rfl (fun J hJ => ?_) AllReadyH.nil)
  go_simp
  refine (HO2.out _ (E2.out.below HS.out)).mono ?_
  rintro e v4 ⟨Ap, cq, rfl, vp, bq⟩
  have zq4 : v3.heap.size ≤ v4.heap.size := bq.size
  have VP := Lib.hid vp
  clear vp
  replace VO := Lib.hid (VO.out.below bq (Nat.le_refl _))
  replace HS := Lib.hid (HS.out.trans (bq.mono (HS.out.size)))
  clear bq
  refine hJ.out _ _ HS.out (fun _ => ?_)
  clear hJ J
  go_simp
  refine wpAnyH_ready (rs := [33]) (by kernel_rfl) (by simp) (AllReadyH.cons rfl (fun J hJ => ?_) AllReadyH.nil)
  go_simp
  refine (same_same Ao Ap _ co cq sp _ rfl hf5 VO.out.ints VP.out.ints).mono ?_
  rintro e v5 ⟨rfl, bq⟩
  have zq5 : v4.heap.size ≤ v5.heap.size := bq.size
  replace HS := Lib.hid (HS.out.trans (bq.mono (HS.out.size)))
  clear bq
  refine hJ.out _ _ HS.out (fun _ => ?_)
  clear hJ J
  go_simp
  refine wpAnyH_take (i := 34) (v := .bool false) rfl (by kernel_rfl) (by kernel_rfl) (by kernel_rfl) (fun _ _ _ h => h) (.inl ⟨rfl, fun V hS => ?y0⟩) HS.out ?_
  case y0 =>
    clear hS
    go_simp
  go_simp
  refine wpAnyH_take (i := 35) (v := .bool false) rfl (by kernel_rfl) (by kernel_rfl) (by kernel_rfl) (fun _ _ _ h => h) (.inl ⟨rfl, fun V hS => ?y0⟩) HS.out ?_
  case y0 =>
    clear hS
    go_simp
  go_simp
  clear VO VP HO1 HO2 Tw Vw PW Tg
  refine wpAnyH_done (by kernel_rfl) ?_ _
  have bz := HS.out
  have zz := bz.size
  clear HS
  replace B := Lib.hid (bel_trans B.out bz)
  replace KB := Lib.hid (KB.out.below bz (by omega))
  replace E2 := Lib.hid (E2.out.below bz)
  replace Vg := Lib.hid (Vg.out.below bz (by omega))
  replace PG := Lib.hid (PG.out.below bz (by omega))
  clear bz
  have x0 : v5.cell? ⟨kb, 0, none⟩ = some (.int .i64 (c 0)) := cell_of_row _ _ 0 _ _ (0, 0) KB.out
  have x1 : v5.cell? ⟨kb, 1, none⟩ = some (.int .i64 (c 1)) := cell_of_row _ _ 1 _ _ (0, 0) KB.out
  have x2 : v5.cell? ⟨kb, 2, none⟩ = some (.int .i64 (c 2)) := cell_of_row _ _ 2 _ _ (0, 0) KB.out
  have x3 : v5.cell? ⟨kb, 3, none⟩ = some (.int .i64 (c 3)) := cell_of_row _ _ 3 _ _ (0, 0) KB.out
  have x4 : v5.cell? ⟨kb, 4, none⟩ = some (.int .i64 (c 4)) := cell_of_row _ _ 4 _ _ (0, 0) KB.out
  have x5 : v5.cell? ⟨kb, 5, none⟩ = some (.int .i64 (c 5)) := cell_of_row _ _ 5 _ _ (0, 0) KB.out
  have x6 : v5.cell? ⟨kb, 6, none⟩ = some (.int .i64 (c 6)) := cell_of_row _ _ 6 _ _ (0, 0) KB.out
  have x7 : v5.cell? ⟨kb, 7, none⟩ = some (.int .i64 (c 7)) := cell_of_row _ _ 7 _ _ (0, 0) KB.out
  have x8 : v5.cell? ⟨kb, 8, none⟩ = some (.int .i64 (c 8)) := cell_of_row _ _ 8 _ _ (0, 0) KB.out
  have x9 : v5.cell? ⟨kb, 9, none⟩ = some (.int .i64 (c 9)) := cell_of_row _ _ 9 _ _ (0, 0) KB.out
  have x10 : v5.cell? ⟨kb, 10, none⟩ = some (.int .i64 (c 10)) := cell_of_row _ _ 10 _ _ (0, 0) KB.out
  have x11 : v5.cell? ⟨kb, 11, none⟩ = some (.int .i64 (c 11)) := cell_of_row _ _ 11 _ _ (0, 0) KB.out
  have x12 : v5.cell? ⟨kb, 12, none⟩ = some (.int .i64 (c 12)) := cell_of_row _ _ 12 _ _ (0, 0) KB.out
  have x13 : v5.cell? ⟨kb, 13, none⟩ = some (.int .i64 (c 13)) := cell_of_row _ _ 13 _ _ (0, 0) KB.out
  have xl := KB.out.lt
  go_wp2_with fail
  clear x0 x1 x2 x3 x4 x5 x6 x7 x8 x9 x10 x11 x12 x13 xl
  refine (specConfigOk_any c _).mono ?_
  rintro e w7 ⟨rfl, b7⟩
  have z7 : v5.heap.size ≤ w7.heap.size := b7.size
  replace B := Lib.hid (bel_trans B.out b7)
  replace KB := Lib.hid (KB.out.below b7 (by omega))
  replace E2 := Lib.hid (E2.out.below b7)
  replace Vg := Lib.hid (Vg.out.below b7 (by omega))
  replace PG := Lib.hid (PG.out.below b7 (by omega))
  clear b7
  cases hok : okC c
  · clear hok
    go_wp2
    go_ret
    exact ⟨rfl, B.out⟩
  by_cases hl : 300 < evs.length
  · clear hok
    go_wp2
    go_ret
    exact ⟨rfl, B.out⟩
  have hl3 : ¬ (300 : Int) < (evs.length : Int) := by omega
  have hcan : canH c evs = true := by unfold canH; rw [hok, decide_eq_true (by omega)]; rfl
  have hbr : (⟨s', zs', u'⟩ : Br) = hB c evs evs.length := by have := Hr.out; rw [playR_yes hcan] at this; exact (congrArg Prod.fst this).symm
  have hov : OkB ⟨s', zs', u'⟩ := by rw [hbr]; exact run_ok (c := c) _ zBr_ok
  have Hok := Lib.hid hok
  have Hov := Lib.hid hov
  clear hok hcan hbr hov Hr
  have hrng := okC_iff.1 Hok.out
  have hc11 : 1 ≤ c 11 ∧ c 11 ≤ 20 := by omega
  have hc12 : 0 ≤ c 12 ∧ c 12 ≤ 1000000000 := by omega
  clear hrng
  have hst := And.intro Hov.out.s0 Hov.out.s1
  have hun := And.intro Hov.out.t0 Hov.out.t1
  dsimp only at hst hun
  obtain ⟨q00, q01, q02, q03⟩ := PG.out.cells
  have q04 := PG.out.lt
  go_wp2_with fail
  clear q00 q01 q02 q04 q03
  have hokb := Lib.hid (okB_iff.2 Hov.out)
  refine (specBreakerOk_any Ag zs'.length cg s' u' zs' _ rfl hf3 Vg.out.ints).mono ?_
  rintro e w8 ⟨rfl, b8⟩
  have z8 : w7.heap.size ≤ w8.heap.size := b8.size
  replace B := Lib.hid (bel_trans B.out b8)
  replace KB := Lib.hid (KB.out.below b8 (by omega))
  replace E2 := Lib.hid (E2.out.below b8)
  replace Vg := Lib.hid (Vg.out.below b8 (by omega))
  replace PG := Lib.hid (PG.out.below b8 (by omega))
  clear b8
  rw [hokb.out]
  clear HSP HIM E2
  have ne9 : kb ≠ w5.heap.size := by omega
  by_cases h1 : s' = 1
  · subst h1
    by_cases hu : 0 < u'
    · obtain ⟨q00, q01, q02, q03⟩ := PG.out.cells
      clear q03
      have hw9 : IntKind.i64.wrap (u' - 1) = u' - 1 := IntWalk.i64_in _ (by omega)
      have hmay := open_waits (b := ⟨1, zs', u'⟩) rfl
      dsimp only at hmay
      have Hmay := Lib.hid hmay
      clear hmay
      go_wp2_with fail
      refine (implMayDial_any Ag zs'.length cg 1 u' (u' - 1) zs' _ rfl hf3 Vg.out.ints).mono ?_
      rintro e X ⟨rfl, bX⟩
      have zX : w8.heap.size ≤ X.heap.size := bX.size
      rw [Hmay.out]
      replace B := Lib.hid (bel_trans B.out bX)
      replace KB := Lib.hid (KB.out.below bX (by omega))
      replace PG := Lib.hid (PG.out.below bX (by omega))
      clear bX Hmay hw9 q00 q01 q02
      obtain ⟨q00, q01, q02, q03⟩ := PG.out.cells
      clear q03
      go_wp2_with fail
      clear q00 q01 q02
      obtain ⟨tt, htt⟩ := Int.eq_ofNat_of_zero_le (show 0 ≤ c 11 by omega)
      have hT1 : 1 ≤ tt ∧ tt ≤ 20 := by omega
      have Htt := Lib.hid htt
      have F0 : Hid (FrSt w ((X).alloc (.cells #[.int .i64 0, .slice none 0 0, .int .i64 0] 31)) (X).heap.size kb c 0) := by
        have hf0 : fr c 0 = hurt 0 := by unfold fr; rw [if_neg (by omega)]
        refine ⟨none, 0, ?_, ?_, KB.out.below (bel_alloc _ _) KB.out.lt, bel_trans B.out (bel_alloc _ _), B.out.size, KB.out.lt⟩
        · rw [hf0]; exact heap_alloc_new (X) _
        · rw [hf0]; exact IV.nil _ _ _ _
      clear htt
      generalize (X).heap.size = fb at F0 ⊢
      go_loopw [14] (fun i wr => ∃ k : Nat, k ≤ tt ∧ i = .int .i64 ((k : Int) + 1) ∧ FrSt w wr fb kb c k) (fun i _ => tt + 1 - (intOf i).toNat)
      case atStart => exact ⟨0, Nat.zero_le _, rfl, F0.out⟩
      case round =>
        obtain ⟨k, hk, rfl, hst⟩ := hrel
        have St := Lib.hid hst
        obtain ⟨A', c', p1, v1, i1, bw, l1, l2⟩ := hst
        have zk := i1.lt
        have zf := p1.lt
        have P1 := Lib.hid p1
        have V1 := Lib.hid v1
        have I1 := Lib.hid i1
        have BW := Lib.hid bw
        clear p1 v1 i1 bw F0
        by_cases hlt : k < tt
        · have hlt' : (k : Int) + 1 ≤ c 11 := by have := Htt.out; omega
          have hfl := fr_few Hok.out (k := k) (by omega)
          have hcon := fun W hI => implOnFailure_any c A' (fr c k).fails.length c' (fr c k).state (fr c k).till 100 (fr c k).fails W rfl (by omega) hI
          have hfn := fr_next Hok.out (k := k) (by omega)
          have hfs := fr_state (c := c) (k + 1)
          rw [show (⟨(fr c k).state, (fr c k).fails, (fr c k).till⟩ : Br) = fr c k from rfl, hfn] at hcon
          have HC := Lib.hid hcon
          have HNx : Hid (∀ w5 A3 c3 o, Below wr.heap.size wr w5 → IV w5 wr.heap.size w5.heap.size A3 (fr c (k + 1)).fails → FrSt w ((((w5.setCell ⟨fb, 0, none⟩ (.int .i64 (fr c (k + 1)).state)).setCell ⟨fb, 1, none⟩ (.slice A3 (fr c (k + 1)).fails.length c3)).setCell ⟨fb, 2, none⟩ (.int .i64 (fr c (k + 1)).till)).alloc o) fb kb c (k + 1)) := fun w5 A3 c3 o hb hv => St.out.next hb hv o
          clear hcon hfn St
          obtain ⟨y0, y1, y2, yf⟩ := P1.out.cells
          have x0 : wr.cell? ⟨kb, 0, none⟩ = some (.int .i64 (c 0)) := cell_of_row _ _ 0 _ _ (0, 0) I1.out
          have x1 : wr.cell? ⟨kb, 1, none⟩ = some (.int .i64 (c 1)) := cell_of_row _ _ 1 _ _ (0, 0) I1.out
          have x2 : wr.cell? ⟨kb, 2, none⟩ = some (.int .i64 (c 2)) := cell_of_row _ _ 2 _ _ (0, 0) I1.out
          have x3 : wr.cell? ⟨kb, 3, none⟩ = some (.int .i64 (c 3)) := cell_of_row _ _ 3 _ _ (0, 0) I1.out
          have x4 : wr.cell? ⟨kb, 4, none⟩ = some (.int .i64 (c 4)) := cell_of_row _ _ 4 _ _ (0, 0) I1.out
          have x5 : wr.cell? ⟨kb, 5, none⟩ = some (.int .i64 (c 5)) := cell_of_row _ _ 5 _ _ (0, 0) I1.out
          have x6 : wr.cell? ⟨kb, 6, none⟩ = some (.int .i64 (c 6)) := cell_of_row _ _ 6 _ _ (0, 0) I1.out
          have x7 : wr.cell? ⟨kb, 7, none⟩ = some (.int .i64 (c 7)) := cell_of_row _ _ 7 _ _ (0, 0) I1.out
          have x8 : wr.cell? ⟨kb, 8, none⟩ = some (.int .i64 (c 8)) := cell_of_row _ _ 8 _ _ (0, 0) I1.out
          have x9 : wr.cell? ⟨kb, 9, none⟩ = some (.int .i64 (c 9)) := cell_of_row _ _ 9 _ _ (0, 0) I1.out
          have x10 : wr.cell? ⟨kb, 10, none⟩ = some (.int .i64 (c 10)) := cell_of_row _ _ 10 _ _ (0, 0) I1.out
          have x11 : wr.cell? ⟨kb, 11, none⟩ = some (.int .i64 (c 11)) := cell_of_row _ _ 11 _ _ (0, 0) I1.out
          have x12 : wr.cell? ⟨kb, 12, none⟩ = some (.int .i64 (c 12)) := cell_of_row _ _ 12 _ _ (0, 0) I1.out
          have x13 : wr.cell? ⟨kb, 13, none⟩ = some (.int .i64 (c 13)) := cell_of_row _ _ 13 _ _ (0, 0) I1.out
          generalize (fr c k).state = sk at y0 HC
          generalize (fr c k).till = uk at y2 HC
          obtain ⟨ks, hks⟩ : ∃ ks, (fr c k).fails = ks := ⟨_, rfl⟩
          rw [hks] at y1 HC V1
          clear hks hfl
          obtain ⟨⟨s9, z9, u9⟩, hnx⟩ : ∃ b9, fr c (k + 1) = b9 := ⟨_, rfl⟩
          rw [hnx] at HC HNx hfs
          dsimp only at HNx hfs
          clear hnx
          go_wp2_with fail
          refine (HC.out _ V1.out.ints).mono ?_
          rintro e w5 ⟨A3, c3, rfl, v3, b3⟩
          dsimp only at v3 ⊢
          have HFr := Lib.hid (fun o => HNx.out w5 A3 c3 o b3 v3)
          have z5 : wr.heap.size ≤ w5.heap.size := b3.size
          clear x0 x1 x2 x3 x4 x5 x6 x7 x8 x9 x10 x11 x12 x13 y0 y1 y2 yf
          obtain ⟨y0, y1, y2, yf⟩ := (P1.out.below b3 zf).cells
          have x11 : w5.cell? ⟨kb, 11, none⟩ = some (.int .i64 (c 11)) := cell_of_row _ _ 11 _ _ (0, 0) (I1.out.below b3 zk)
          clear b3 v3 HC HNx P1 V1 I1
          have ne1 : w5.heap.size ≠ fb := by omega
          have ne2 : w5.heap.size ≠ kb := by omega
          have lt1 : fb < w5.heap.size := by omega
          have lt2 : kb < w5.heap.size := by omega
          by_cases he : k + 1 = tt
          · have hs9 : s9 = 1 := by rw [hfs, if_pos (by have := Htt.out; omega)]
            have he2 : ((k : Int) + 1 == c 11) = true := by have := Htt.out; simp; omega
            subst hs9
            clear hfs he
            go_wp2
            go_roundw
            case rel => exact ⟨k + 1, by omega, by go_num, HFr.out _⟩
            case measure => simp [intOf]; omega
          · have hs9 : s9 = 0 := by rw [hfs, if_neg (by have := Htt.out; omega)]
            have he2 : ((k : Int) + 1 == c 11) = false := by have := Htt.out; simp; omega
            subst hs9
            clear hfs he
            go_wp2
            go_roundw
            case rel => exact ⟨k + 1, by omega, by go_num, HFr.out _⟩
            case measure => simp [intOf]; omega
        · have hlt' : ¬ (k : Int) + 1 ≤ c 11 := by have := Htt.out; omega
          have hfo : fr c k = openR c 100 := by unfold fr; rw [if_pos (by have := Htt.out; omega)]
          have hoa := open_at (c := c) Hok.out
          have HM := Lib.hid (fun W x => implMayDial_any A' ([] : List Int).length c' 1 (lim (100 + c 12)) x [] W rfl (by simp) (Ints.nil _ _))
          rw [hfo] at P1
          have HM1 : Hid (mayD ⟨1, [], lim (100 + c 12)⟩ (100 + c 12) = true) := hoa.1
          have HM2 : Hid (mayD ⟨1, [], lim (100 + c 12)⟩ (99 + c 12) = false) := hoa.2
          have P2 : Hid (PB wr fb (.int .i64 1) (.slice A' 0 c') (.int .i64 (lim (100 + c 12)))) := P1.out
          clear P1 V1 St hfo hoa
          generalize lim (100 + c 12) = til at P2 HM HM1 HM2
          obtain ⟨y0, y1, y2, yf⟩ := P2.out.cells
          have x11 : wr.cell? ⟨kb, 11, none⟩ = some (.int .i64 (c 11)) := cell_of_row _ _ 11 _ _ (0, 0) I1.out
          have x12 : wr.cell? ⟨kb, 12, none⟩ = some (.int .i64 (c 12)) := cell_of_row _ _ 12 _ _ (0, 0) I1.out
          have hw1 : IntKind.i64.wrap (100 + c 12) = 100 + c 12 := IntWalk.i64_in _ (by omega)
          have hw2 : IntKind.i64.wrap (99 + c 12) = 99 + c 12 := IntWalk.i64_in _ (by omega)
          go_wp2_with fail
          refine (HM.out _ _).mono ?_
          rintro e w6 ⟨rfl, b6⟩
          rw [HM1.out]
          clear y0 y1 y2 yf x11 x12
          obtain ⟨y0, y1, y2, yf⟩ := (P2.out.below b6 zf).cells
          have x12 : w6.cell? ⟨kb, 12, none⟩ = some (.int .i64 (c 12)) := cell_of_row _ _ 12 _ _ (0, 0) (I1.out.below b6 zk)
          replace BW := Lib.hid (bel_trans BW.out b6)
          clear b6
          go_wp2_with fail
          refine (HM.out _ _).mono ?_
          rintro e w7 ⟨rfl, b7⟩
          rw [HM2.out]
          replace BW := Lib.hid (bel_trans BW.out b7)
          clear b7
          go_wp2
          go_ret
          exact ⟨rfl, BW.out⟩
    · obtain ⟨X, hX⟩ : ∃ X, w8 = X := ⟨_, rfl⟩
      have zX : w8.heap.size ≤ X.heap.size := by rw [hX]; exact Nat.le_refl _
      rw [hX] at B KB PG ⊢
      clear hX
      obtain ⟨q00, q01, q02, q03⟩ := PG.out.cells
      clear q03
      go_wp2_with fail
      clear q00 q01 q02
      obtain ⟨tt, htt⟩ := Int.eq_ofNat_of_zero_le (show 0 ≤ c 11 by omega)
      have hT1 : 1 ≤ tt ∧ tt ≤ 20 := by omega
      have Htt := Lib.hid htt
      have F0 : Hid (FrSt w ((X).alloc (.cells #[.int .i64 0, .slice none 0 0, .int .i64 0] 31)) (X).heap.size kb c 0) := by
        have hf0 : fr c 0 = hurt 0 := by unfold fr; rw [if_neg (by omega)]
        refine ⟨none, 0, ?_, ?_, KB.out.below (bel_alloc _ _) KB.out.lt, bel_trans B.out (bel_alloc _ _), B.out.size, KB.out.lt⟩
        · rw [hf0]; exact heap_alloc_new (X) _
        · rw [hf0]; exact IV.nil _ _ _ _
      clear htt
      generalize (X).heap.size = fb at F0 ⊢
      go_loopw [14] (fun i wr => ∃ k : Nat, k ≤ tt ∧ i = .int .i64 ((k : Int) + 1) ∧ FrSt w wr fb kb c k) (fun i _ => tt + 1 - (intOf i).toNat)
      case atStart => exact ⟨0, Nat.zero_le _, rfl, F0.out⟩
      case round =>
        obtain ⟨k, hk, rfl, hst⟩ := hrel
        have St := Lib.hid hst
        obtain ⟨A', c', p1, v1, i1, bw, l1, l2⟩ := hst
        have zk := i1.lt
        have zf := p1.lt
        have P1 := Lib.hid p1
        have V1 := Lib.hid v1
        have I1 := Lib.hid i1
        have BW := Lib.hid bw
        clear p1 v1 i1 bw F0
        by_cases hlt : k < tt
        · have hlt' : (k : Int) + 1 ≤ c 11 := by have := Htt.out; omega
          have hfl := fr_few Hok.out (k := k) (by omega)
          have hcon := fun W hI => implOnFailure_any c A' (fr c k).fails.length c' (fr c k).state (fr c k).till 100 (fr c k).fails W rfl (by omega) hI
          have hfn := fr_next Hok.out (k := k) (by omega)
          have hfs := fr_state (c := c) (k + 1)
          rw [show (⟨(fr c k).state, (fr c k).fails, (fr c k).till⟩ : Br) = fr c k from rfl, hfn] at hcon
          have HC := Lib.hid hcon
          have HNx : Hid (∀ w5 A3 c3 o, Below wr.heap.size wr w5 → IV w5 wr.heap.size w5.heap.size A3 (fr c (k + 1)).fails → FrSt w ((((w5.setCell ⟨fb, 0, none⟩ (.int .i64 (fr c (k + 1)).state)).setCell ⟨fb, 1, none⟩ (.slice A3 (fr c (k + 1)).fails.length c3)).setCell ⟨fb, 2, none⟩ (.int .i64 (fr c (k + 1)).till)).alloc o) fb kb c (k + 1)) := fun w5 A3 c3 o hb hv => St.out.next hb hv o
          clear hcon hfn St
          obtain ⟨y0, y1, y2, yf⟩ := P1.out.cells
          have x0 : wr.cell? ⟨kb, 0, none⟩ = some (.int .i64 (c 0)) := cell_of_row _ _ 0 _ _ (0, 0) I1.out
          have x1 : wr.cell? ⟨kb, 1, none⟩ = some (.int .i64 (c 1)) := cell_of_row _ _ 1 _ _ (0, 0) I1.out
          have x2 : wr.cell? ⟨kb, 2, none⟩ = some (.int .i64 (c 2)) := cell_of_row _ _ 2 _ _ (0, 0) I1.out
          have x3 : wr.cell? ⟨kb, 3, none⟩ = some (.int .i64 (c 3)) := cell_of_row _ _ 3 _ _ (0, 0) I1.out
          have x4 : wr.cell? ⟨kb, 4, none⟩ = some (.int .i64 (c 4)) := cell_of_row _ _ 4 _ _ (0, 0) I1.out
          have x5 : wr.cell? ⟨kb, 5, none⟩ = some (.int .i64 (c 5)) := cell_of_row _ _ 5 _ _ (0, 0) I1.out
          have x6 : wr.cell? ⟨kb, 6, none⟩ = some (.int .i64 (c 6)) := cell_of_row _ _ 6 _ _ (0, 0) I1.out
          have x7 : wr.cell? ⟨kb, 7, none⟩ = some (.int .i64 (c 7)) := cell_of_row _ _ 7 _ _ (0, 0) I1.out
          have x8 : wr.cell? ⟨kb, 8, none⟩ = some (.int .i64 (c 8)) := cell_of_row _ _ 8 _ _ (0, 0) I1.out
          have x9 : wr.cell? ⟨kb, 9, none⟩ = some (.int .i64 (c 9)) := cell_of_row _ _ 9 _ _ (0, 0) I1.out
          have x10 : wr.cell? ⟨kb, 10, none⟩ = some (.int .i64 (c 10)) := cell_of_row _ _ 10 _ _ (0, 0) I1.out
          have x11 : wr.cell? ⟨kb, 11, none⟩ = some (.int .i64 (c 11)) := cell_of_row _ _ 11 _ _ (0, 0) I1.out
          have x12 : wr.cell? ⟨kb, 12, none⟩ = some (.int .i64 (c 12)) := cell_of_row _ _ 12 _ _ (0, 0) I1.out
          have x13 : wr.cell? ⟨kb, 13, none⟩ = some (.int .i64 (c 13)) := cell_of_row _ _ 13 _ _ (0, 0) I1.out
          generalize (fr c k).state = sk at y0 HC
          generalize (fr c k).till = uk at y2 HC
          obtain ⟨ks, hks⟩ : ∃ ks, (fr c k).fails = ks := ⟨_, rfl⟩
          rw [hks] at y1 HC V1
          clear hks hfl
          obtain ⟨⟨s9, z9, u9⟩, hnx⟩ : ∃ b9, fr c (k + 1) = b9 := ⟨_, rfl⟩
          rw [hnx] at HC HNx hfs
          dsimp only at HNx hfs
          clear hnx
          go_wp2_with fail
          refine (HC.out _ V1.out.ints).mono ?_
          rintro e w5 ⟨A3, c3, rfl, v3, b3⟩
          dsimp only at v3 ⊢
          have HFr := Lib.hid (fun o => HNx.out w5 A3 c3 o b3 v3)
          have z5 : wr.heap.size ≤ w5.heap.size := b3.size
          clear x0 x1 x2 x3 x4 x5 x6 x7 x8 x9 x10 x11 x12 x13 y0 y1 y2 yf
          obtain ⟨y0, y1, y2, yf⟩ := (P1.out.below b3 zf).cells
          have x11 : w5.cell? ⟨kb, 11, none⟩ = some (.int .i64 (c 11)) := cell_of_row _ _ 11 _ _ (0, 0) (I1.out.below b3 zk)
          clear b3 v3 HC HNx P1 V1 I1
          have ne1 : w5.heap.size ≠ fb := by omega
          have ne2 : w5.heap.size ≠ kb := by omega
          have lt1 : fb < w5.heap.size := by omega
          have lt2 : kb < w5.heap.size := by omega
          by_cases he : k + 1 = tt
          · have hs9 : s9 = 1 := by rw [hfs, if_pos (by have := Htt.out; omega)]
            have he2 : ((k : Int) + 1 == c 11) = true := by have := Htt.out; simp; omega
            subst hs9
            clear hfs he
            go_wp2
            go_roundw
            case rel => exact ⟨k + 1, by omega, by go_num, HFr.out _⟩
            case measure => simp [intOf]; omega
          · have hs9 : s9 = 0 := by rw [hfs, if_neg (by have := Htt.out; omega)]
            have he2 : ((k : Int) + 1 == c 11) = false := by have := Htt.out; simp; omega
            subst hs9
            clear hfs he
            go_wp2
            go_roundw
            case rel => exact ⟨k + 1, by omega, by go_num, HFr.out _⟩
            case measure => simp [intOf]; omega
        · have hlt' : ¬ (k : Int) + 1 ≤ c 11 := by have := Htt.out; omega
          have hfo : fr c k = openR c 100 := by unfold fr; rw [if_pos (by have := Htt.out; omega)]
          have hoa := open_at (c := c) Hok.out
          have HM := Lib.hid (fun W x => implMayDial_any A' ([] : List Int).length c' 1 (lim (100 + c 12)) x [] W rfl (by simp) (Ints.nil _ _))
          rw [hfo] at P1
          have HM1 : Hid (mayD ⟨1, [], lim (100 + c 12)⟩ (100 + c 12) = true) := hoa.1
          have HM2 : Hid (mayD ⟨1, [], lim (100 + c 12)⟩ (99 + c 12) = false) := hoa.2
          have P2 : Hid (PB wr fb (.int .i64 1) (.slice A' 0 c') (.int .i64 (lim (100 + c 12)))) := P1.out
          clear P1 V1 St hfo hoa
          generalize lim (100 + c 12) = til at P2 HM HM1 HM2
          obtain ⟨y0, y1, y2, yf⟩ := P2.out.cells
          have x11 : wr.cell? ⟨kb, 11, none⟩ = some (.int .i64 (c 11)) := cell_of_row _ _ 11 _ _ (0, 0) I1.out
          have x12 : wr.cell? ⟨kb, 12, none⟩ = some (.int .i64 (c 12)) := cell_of_row _ _ 12 _ _ (0, 0) I1.out
          have hw1 : IntKind.i64.wrap (100 + c 12) = 100 + c 12 := IntWalk.i64_in _ (by omega)
          have hw2 : IntKind.i64.wrap (99 + c 12) = 99 + c 12 := IntWalk.i64_in _ (by omega)
          go_wp2_with fail
          refine (HM.out _ _).mono ?_
          rintro e w6 ⟨rfl, b6⟩
          rw [HM1.out]
          clear y0 y1 y2 yf x11 x12
          obtain ⟨y0, y1, y2, yf⟩ := (P2.out.below b6 zf).cells
          have x12 : w6.cell? ⟨kb, 12, none⟩ = some (.int .i64 (c 12)) := cell_of_row _ _ 12 _ _ (0, 0) (I1.out.below b6 zk)
          replace BW := Lib.hid (bel_trans BW.out b6)
          clear b6
          go_wp2_with fail
          refine (HM.out _ _).mono ?_
          rintro e w7 ⟨rfl, b7⟩
          rw [HM2.out]
          replace BW := Lib.hid (bel_trans BW.out b7)
          clear b7
          go_wp2
          go_ret
          exact ⟨rfl, BW.out⟩
  by_cases h2 : s' = 2
  · subst h2
    have hqf := half_fails (b := ⟨2, zs', u'⟩) Hok.out Hov.out rfl
    have hqs := half_heals Hov.out rfl
    have Hmay := Lib.hid (half_waits (b := ⟨2, zs', u'⟩) rfl u')
    dsimp only at hqf hqs
    have HQF := Lib.hid (fun W hI => implOnFailure_any c Ag zs'.length cg 2 u' u' zs' W rfl hf3 hI)
    have HQS := Lib.hid (fun W hI => implOnSuccess_any Ag zs'.length cg 2 u' zs' W rfl hf3 hI)
    rw [hqf] at HQF
    rw [hqs] at HQS
    clear hqf hqs h1
    obtain ⟨q00, q01, q02, q03⟩ := PG.out.cells
    clear q03
    have x0 : w8.cell? ⟨kb, 0, none⟩ = some (.int .i64 (c 0)) := cell_of_row _ _ 0 _ _ (0, 0) KB.out
    have x1 : w8.cell? ⟨kb, 1, none⟩ = some (.int .i64 (c 1)) := cell_of_row _ _ 1 _ _ (0, 0) KB.out
    have x2 : w8.cell? ⟨kb, 2, none⟩ = some (.int .i64 (c 2)) := cell_of_row _ _ 2 _ _ (0, 0) KB.out
    have x3 : w8.cell? ⟨kb, 3, none⟩ = some (.int .i64 (c 3)) := cell_of_row _ _ 3 _ _ (0, 0) KB.out
    have x4 : w8.cell? ⟨kb, 4, none⟩ = some (.int .i64 (c 4)) := cell_of_row _ _ 4 _ _ (0, 0) KB.out
    have x5 : w8.cell? ⟨kb, 5, none⟩ = some (.int .i64 (c 5)) := cell_of_row _ _ 5 _ _ (0, 0) KB.out
    have x6 : w8.cell? ⟨kb, 6, none⟩ = some (.int .i64 (c 6)) := cell_of_row _ _ 6 _ _ (0, 0) KB.out
    have x7 : w8.cell? ⟨kb, 7, none⟩ = some (.int .i64 (c 7)) := cell_of_row _ _ 7 _ _ (0, 0) KB.out
    have x8 : w8.cell? ⟨kb, 8, none⟩ = some (.int .i64 (c 8)) := cell_of_row _ _ 8 _ _ (0, 0) KB.out
    have x9 : w8.cell? ⟨kb, 9, none⟩ = some (.int .i64 (c 9)) := cell_of_row _ _ 9 _ _ (0, 0) KB.out
    have x10 : w8.cell? ⟨kb, 10, none⟩ = some (.int .i64 (c 10)) := cell_of_row _ _ 10 _ _ (0, 0) KB.out
    have x11 : w8.cell? ⟨kb, 11, none⟩ = some (.int .i64 (c 11)) := cell_of_row _ _ 11 _ _ (0, 0) KB.out
    have x12 : w8.cell? ⟨kb, 12, none⟩ = some (.int .i64 (c 12)) := cell_of_row _ _ 12 _ _ (0, 0) KB.out
    have x13 : w8.cell? ⟨kb, 13, none⟩ = some (.int .i64 (c 13)) := cell_of_row _ _ 13 _ _ (0, 0) KB.out
    go_wp2_with fail
    clear x0 x1 x2 x3 x4 x5 x6 x7 x8 x9 x10 x11 x12 x13 q00 q01 q02
    refine (HQF.out _ Vg.out.ints).mono ?_
    rintro e X ⟨A5, c5, rfl, _, b5⟩
    have z5 : w8.heap.size ≤ X.heap.size := b5.size
    replace B := Lib.hid (bel_trans B.out b5)
    replace PG := Lib.hid (PG.out.below b5 (by omega))
    replace Vg := Lib.hid (Vg.out.below b5 (by omega))
    clear b5 HQF
    have Hop : Hid (openR c u' = ⟨1, [], lim (u' + c 12)⟩) := rfl
    rw [Hop.out]
    generalize lim (u' + c 12) = til
    dsimp only
    obtain ⟨q00, q01, q02, q03⟩ := PG.out.cells
    have qlt := PG.out.lt
    clear q03
    go_wp2_with fail
    clear q00 q01 q02 qlt
    obtain ⟨Y, hY⟩ : ∃ Y, X.alloc (.cells #[.int .i64 1, .slice A5 0 c5, .int .i64 til] 31) = Y := ⟨_, rfl⟩
    have bY : Below X.heap.size X Y := by rw [← hY]; exact bel_alloc _ _
    have PO : Hid (PB Y X.heap.size (.int .i64 1) (.slice A5 0 c5) (.int .i64 til)) := by rw [← hY]; exact heap_alloc_new X _
    have zY : X.heap.size < Y.heap.size := PO.out.lt
    first | rw [hY] | (simp only [List.length_nil] at hY ⊢; rw [hY])
    replace B := Lib.hid (bel_trans B.out bY)
    replace PG := Lib.hid (PG.out.below bY (by omega))
    replace Vg := Lib.hid (Vg.out.below bY (by omega))
    clear bY hY
    refine (HQS.out _ Vg.out.ints).mono ?_
    rintro e X2 ⟨A6, c6, rfl, _, b6⟩
    have z6 : Y.heap.size ≤ X2.heap.size := b6.size
    replace B := Lib.hid (bel_trans B.out b6)
    replace PG := Lib.hid (PG.out.below b6 (by omega))
    replace PO := Lib.hid (PO.out.below b6 (by omega))
    replace Vg := Lib.hid (Vg.out.below b6 (by omega))
    clear b6 HQS
    have hz9 : zBr = ⟨0, [], 0⟩ := rfl
    rw [hz9]
    dsimp only
    clear hz9
    obtain ⟨q00, q01, q02, q03⟩ := PG.out.cells
    obtain ⟨q10, q11, q12, q13⟩ := PO.out.cells
    have qlt := PG.out.lt
    have qlt2 := PO.out.lt
    clear q03 q13
    go_wp2_with fail
    refine (implMayDial_any Ag zs'.length cg 2 u' u' zs' _ rfl hf3 (Vg.out.ints.below (bel_alloc _ _))).mono ?_
    rintro e X3 ⟨rfl, b7⟩
    rw [Hmay.out]
    replace B := Lib.hid (bel_trans (bel_trans B.out (bel_alloc _ _)) b7)
    clear b7
    go_wp2
    go_ret
    exact ⟨rfl, B.out⟩
  · have h1b : (s' == 1) = false := by simpa using h1
    have h2b : (s' == 2) = false := by simpa using h2
    obtain ⟨X, hX⟩ : ∃ X, w8 = X := ⟨_, rfl⟩
    have zX : w8.heap.size ≤ X.heap.size := by rw [hX]; exact Nat.le_refl _
    rw [hX] at B KB PG ⊢
    clear hX h1 h2
    obtain ⟨q00, q01, q02, q03⟩ := PG.out.cells
    clear q03
    go_wp2_with fail
    clear q00 q01 q02
    obtain ⟨tt, htt⟩ := Int.eq_ofNat_of_zero_le (show 0 ≤ c 11 by omega)
    have hT1 : 1 ≤ tt ∧ tt ≤ 20 := by omega
    have Htt := Lib.hid htt
    have F0 : Hid (FrSt w ((X).alloc (.cells #[.int .i64 0, .slice none 0 0, .int .i64 0] 31)) (X).heap.size kb c 0) := by
      have hf0 : fr c 0 = hurt 0 := by unfold fr; rw [if_neg (by omega)]
      refine ⟨none, 0, ?_, ?_, KB.out.below (bel_alloc _ _) KB.out.lt, bel_trans B.out (bel_alloc _ _), B.out.size, KB.out.lt⟩
      · rw [hf0]; exact heap_alloc_new (X) _
      · rw [hf0]; exact IV.nil _ _ _ _
    clear htt
    generalize (X).heap.size = fb at F0 ⊢
    go_loopw [14] (fun i wr => ∃ k : Nat, k ≤ tt ∧ i = .int .i64 ((k : Int) + 1) ∧ FrSt w wr fb kb c k) (fun i _ => tt + 1 - (intOf i).toNat)
    case atStart => exact ⟨0, Nat.zero_le _, rfl, F0.out⟩
    case round =>
      obtain ⟨k, hk, rfl, hst⟩ := hrel
      have St := Lib.hid hst
      obtain ⟨A', c', p1, v1, i1, bw, l1, l2⟩ := hst
      have zk := i1.lt
      have zf := p1.lt
      have P1 := Lib.hid p1
      have V1 := Lib.hid v1
      have I1 := Lib.hid i1
      have BW := Lib.hid bw
      clear p1 v1 i1 bw F0
      by_cases hlt : k < tt
      · have hlt' : (k : Int) + 1 ≤ c 11 := by have := Htt.out; omega
        have hfl := fr_few Hok.out (k := k) (by omega)
        have hcon := fun W hI => implOnFailure_any c A' (fr c k).fails.length c' (fr c k).state (fr c k).till 100 (fr c k).fails W rfl (by omega) hI
        have hfn := fr_next Hok.out (k := k) (by omega)
        have hfs := fr_state (c := c) (k + 1)
        rw [show (⟨(fr c k).state, (fr c k).fails, (fr c k).till⟩ : Br) = fr c k from rfl, hfn] at hcon
        have HC := Lib.hid hcon
        have HNx : Hid (∀ w5 A3 c3 o, Below wr.heap.size wr w5 → IV w5 wr.heap.size w5.heap.size A3 (fr c (k + 1)).fails → FrSt w ((((w5.setCell ⟨fb, 0, none⟩ (.int .i64 (fr c (k + 1)).state)).setCell ⟨fb, 1, none⟩ (.slice A3 (fr c (k + 1)).fails.length c3)).setCell ⟨fb, 2, none⟩ (.int .i64 (fr c (k + 1)).till)).alloc o) fb kb c (k + 1)) := fun w5 A3 c3 o hb hv => St.out.next hb hv o
        clear hcon hfn St
        obtain ⟨y0, y1, y2, yf⟩ := P1.out.cells
        have x0 : wr.cell? ⟨kb, 0, none⟩ = some (.int .i64 (c 0)) := cell_of_row _ _ 0 _ _ (0, 0) I1.out
        have x1 : wr.cell? ⟨kb, 1, none⟩ = some (.int .i64 (c 1)) := cell_of_row _ _ 1 _ _ (0, 0) I1.out
        have x2 : wr.cell? ⟨kb, 2, none⟩ = some (.int .i64 (c 2)) := cell_of_row _ _ 2 _ _ (0, 0) I1.out
        have x3 : wr.cell? ⟨kb, 3, none⟩ = some (.int .i64 (c 3)) := cell_of_row _ _ 3 _ _ (0, 0) I1.out
        have x4 : wr.cell? ⟨kb, 4, none⟩ = some (.int .i64 (c 4)) := cell_of_row _ _ 4 _ _ (0, 0) I1.out
        have x5 : wr.cell? ⟨kb, 5, none⟩ = some (.int .i64 (c 5)) := cell_of_row _ _ 5 _ _ (0, 0) I1.out
        have x6 : wr.cell? ⟨kb, 6, none⟩ = some (.int .i64 (c 6)) := cell_of_row _ _ 6 _ _ (0, 0) I1.out
        have x7 : wr.cell? ⟨kb, 7, none⟩ = some (.int .i64 (c 7)) := cell_of_row _ _ 7 _ _ (0, 0) I1.out
        have x8 : wr.cell? ⟨kb, 8, none⟩ = some (.int .i64 (c 8)) := cell_of_row _ _ 8 _ _ (0, 0) I1.out
        have x9 : wr.cell? ⟨kb, 9, none⟩ = some (.int .i64 (c 9)) := cell_of_row _ _ 9 _ _ (0, 0) I1.out
        have x10 : wr.cell? ⟨kb, 10, none⟩ = some (.int .i64 (c 10)) := cell_of_row _ _ 10 _ _ (0, 0) I1.out
        have x11 : wr.cell? ⟨kb, 11, none⟩ = some (.int .i64 (c 11)) := cell_of_row _ _ 11 _ _ (0, 0) I1.out
        have x12 : wr.cell? ⟨kb, 12, none⟩ = some (.int .i64 (c 12)) := cell_of_row _ _ 12 _ _ (0, 0) I1.out
        have x13 : wr.cell? ⟨kb, 13, none⟩ = some (.int .i64 (c 13)) := cell_of_row _ _ 13 _ _ (0, 0) I1.out
        generalize (fr c k).state = sk at y0 HC
        generalize (fr c k).till = uk at y2 HC
        obtain ⟨ks, hks⟩ : ∃ ks, (fr c k).fails = ks := ⟨_, rfl⟩
        rw [hks] at y1 HC V1
        clear hks hfl
        obtain ⟨⟨s9, z9, u9⟩, hnx⟩ : ∃ b9, fr c (k + 1) = b9 := ⟨_, rfl⟩
        rw [hnx] at HC HNx hfs
        dsimp only at HNx hfs
        clear hnx
        go_wp2_with fail
        refine (HC.out _ V1.out.ints).mono ?_
        rintro e w5 ⟨A3, c3, rfl, v3, b3⟩
        dsimp only at v3 ⊢
        have HFr := Lib.hid (fun o => HNx.out w5 A3 c3 o b3 v3)
        have z5 : wr.heap.size ≤ w5.heap.size := b3.size
        clear x0 x1 x2 x3 x4 x5 x6 x7 x8 x9 x10 x11 x12 x13 y0 y1 y2 yf
        obtain ⟨y0, y1, y2, yf⟩ := (P1.out.below b3 zf).cells
        have x11 : w5.cell? ⟨kb, 11, none⟩ = some (.int .i64 (c 11)) := cell_of_row _ _ 11 _ _ (0, 0) (I1.out.below b3 zk)
        clear b3 v3 HC HNx P1 V1 I1
        have ne1 : w5.heap.size ≠ fb := by omega
        have ne2 : w5.heap.size ≠ kb := by omega
        have lt1 : fb < w5.heap.size := by omega
        have lt2 : kb < w5.heap.size := by omega
        by_cases he : k + 1 = tt
        · have hs9 : s9 = 1 := by rw [hfs, if_pos (by have := Htt.out; omega)]
          have he2 : ((k : Int) + 1 == c 11) = true := by have := Htt.out; simp; omega
          subst hs9
          clear hfs he
          go_wp2
          go_roundw
          case rel => exact ⟨k + 1, by omega, by go_num, HFr.out _⟩
          case measure => simp [intOf]; omega
        · have hs9 : s9 = 0 := by rw [hfs, if_neg (by have := Htt.out; omega)]
          have he2 : ((k : Int) + 1 == c 11) = false := by have := Htt.out; simp; omega
          subst hs9
          clear hfs he
          go_wp2
          go_roundw
          case rel => exact ⟨k + 1, by omega, by go_num, HFr.out _⟩
          case measure => simp [intOf]; omega
      · have hlt' : ¬ (k : Int) + 1 ≤ c 11 := by have := Htt.out; omega
        have hfo : fr c k = openR c 100 := by unfold fr; rw [if_pos (by have := Htt.out; omega)]
        have hoa := open_at (c := c) Hok.out
        have HM := Lib.hid (fun W x => implMayDial_any A' ([] : List Int).length c' 1 (lim (100 + c 12)) x [] W rfl (by simp) (Ints.nil _ _))
        rw [hfo] at P1
        have HM1 : Hid (mayD ⟨1, [], lim (100 + c 12)⟩ (100 + c 12) = true) := hoa.1
        have HM2 : Hid (mayD ⟨1, [], lim (100 + c 12)⟩ (99 + c 12) = false) := hoa.2
        have P2 : Hid (PB wr fb (.int .i64 1) (.slice A' 0 c') (.int .i64 (lim (100 + c 12)))) := P1.out
        clear P1 V1 St hfo hoa
        generalize lim (100 + c 12) = til at P2 HM HM1 HM2
        obtain ⟨y0, y1, y2, yf⟩ := P2.out.cells
        have x11 : wr.cell? ⟨kb, 11, none⟩ = some (.int .i64 (c 11)) := cell_of_row _ _ 11 _ _ (0, 0) I1.out
        have x12 : wr.cell? ⟨kb, 12, none⟩ = some (.int .i64 (c 12)) := cell_of_row _ _ 12 _ _ (0, 0) I1.out
        have hw1 : IntKind.i64.wrap (100 + c 12) = 100 + c 12 := IntWalk.i64_in _ (by omega)
        have hw2 : IntKind.i64.wrap (99 + c 12) = 99 + c 12 := IntWalk.i64_in _ (by omega)
        go_wp2_with fail
        refine (HM.out _ _).mono ?_
        rintro e w6 ⟨rfl, b6⟩
        rw [HM1.out]
        clear y0 y1 y2 yf x11 x12
        obtain ⟨y0, y1, y2, yf⟩ := (P2.out.below b6 zf).cells
        have x12 : w6.cell? ⟨kb, 12, none⟩ = some (.int .i64 (c 12)) := cell_of_row _ _ 12 _ _ (0, 0) (I1.out.below b6 zk)
        replace BW := Lib.hid (bel_trans BW.out b6)
        clear b6
        go_wp2_with fail
        refine (HM.out _ _).mono ?_
        rintro e w7 ⟨rfl, b7⟩
        rw [HM2.out]
        replace BW := Lib.hid (bel_trans BW.out b7)
        clear b7
        go_wp2
        go_ret
        exact ⟨rfl, BW.out⟩

end Go.Proofs.Ytmmoelijpemlfaa.Bk
