/- The reference's PlayHeap. -/
import Derived.Test.YtnmhdbfemobhkaaPh3
namespace Go.Proofs.Ytnmhdbfemobhkaa.Hp
open Go.RowKit Go.Deep Base

/-- A new heap lies apart from a list that was there before. -/
theorem apart_new {w w1 : World} {lo n : Nat} {A : Option Addr} {es : List Du} {v : Value} {xs : List Value} {base : Nat} (hd : DV w1 w.heap.size w1.heap.size A es) (ho : w.ownsRow base 3 1 v n xs) (hlo : lo ≤ w.heap.size) : Apart w1 lo A es v := fun hp => by
  obtain ⟨g, h1, h2, h3, h4⟩ := hd hp
  exact ⟨g, h1, by omega, h3, h4, fun e => by have := (ho.lt g e.symm).2; omega⟩
theorem Apart.put {W : World} {lo x : Nat} {A : Option Addr} {es : List Du} {v u0 u1 : Value} (h : Apart W lo A es v) (hx : x < lo) : Apart ((W.setCell ⟨x, 0, none⟩ u0).setCell ⟨x, 1, none⟩ u1) lo A es v := fun hp => by
  obtain ⟨g, h1, h2, h3, h4, h5⟩ := h hp
  refine ⟨g, h1, h2, by simp [World.setCell]; exact h3, h4.of_block ?_, h5⟩
  rw [heap_setCell_other _ _ _ _ (by show g ≠ x; omega), heap_setCell_other _ _ _ _ (by show g ≠ x; omega)]

set_option maxRecDepth 100000 in
set_option maxHeartbeats 4000000 in
theorem specPlay_rows (gO n cap hi : Nat) (B C : Nat → Nat) (zss : List (List Int)) (w : World) (hn : zss.length = n) (hm : n ≤ 1048576) (hi0 : ∀ i, i < n → (zss.getD i []).length ≤ 1048576) (h : RS w hi gO B C zss) (hs : hi ≤ w.heap.size) :
    Calls Try.prog 14 #[.slice (some ⟨gO, 0, none⟩) n cap] w (PlayEnd w (plyA zss)) := by
  have Hn := Lib.hid hn
  have HO := Lib.hid h
  have Hi := Lib.hid hi0
  clear hn h hi0
  by_cases h300 : 300 < n
  · have hA : plyA zss = ([], 0, []) := by unfold plyA; rw [if_pos (by rw [Hn.out]; exact h300)]
    rw [hA]
    clear hA
    go_enter Try.func14, Try.ntmps14
    go_wp2
    refine bodyPost_ret (v := .tuple #[.agg #[.slice none 0 0, .int .i64 0], .slice none 0 0]) (by simp [results, Try.results14, go_sem]) rfl ?_
    exact ⟨none, 0, none, 0, rfl, fun h => absurd h (by simp), World.ownsRow_nil _ _ _ _, bel_alloc _ _⟩
  have HA : Hid (plyA zss = ply zss [] 0) := by show plyA zss = _; unfold plyA; rw [if_neg (by rw [Hn.out]; exact h300)]
  rw [HA.out]
  clear HA
  obtain ⟨i0, hi0, hz0, hz1, hz2⟩ := info_parts infoInt
  have Hi0 := Lib.hid hi0
  have Hz0 := Lib.hid hz0
  have Hz1 := Lib.hid hz1
  have Hz2 := Lib.hid hz2
  clear hi0 hz0 hz1 hz2
  have hn3 : ¬ (300 : Int) < (n : Int) := by omega
  go_enter Try.func14, Try.ntmps14
  go_wp2_with fail
  go_loopw [5, 6] (fun x i wr => ∃ (v : Value) (k : Nat) (es : List Du) (p : Int) (pre : List Int) (A : Option Addr) (c : Nat), v = x ∧ k ≤ n ∧ i = .int .i64 k ∧ PlSt w wr zss k es p pre A c v) (fun _ i _ => n - (intOf i).toNat)
  case atStart =>
    refine ⟨_, 0, [], 0, [], none, 0, rfl, Nat.zero_le _, rfl, ⟨?_, ?_, fun h => absurd h (by simp), by simp, ?_, rfl, by simp, (((Below.refl _ _).alloc (Nat.le_refl _) _).alloc (by simp) _).alloc (by simp; omega) _⟩⟩
    · have h := heap_alloc_new (w.alloc (.cells #[.slice none 0 0, .int .i64 0] 28)) (.cells #[.slice none 0 0, .int .i64 0] 28)
      rw [World.size_alloc] at h
      exact Blk2.alloc h _
    · exact Blk2.alloc (Blk2.alloc (heap_alloc_new w _) _) _
    · have h := World.ownsRow_lit (base := w.heap.size + 1 + 1) (e := 3) (size := 1) ((w.alloc (.cells #[.slice none 0 0, .int .i64 0] 28)).alloc (.cells #[.slice none 0 0, .int .i64 0] 28)) #[] 0 (by simp) (by simp) (by simp)
      simp only [World.size_alloc] at h
      exact h
  case round =>
    obtain ⟨v, k, es, p, pre, A, c, hv, hk, rfl, st⟩ := hrel
    subst hv
    obtain ⟨wo, rfl⟩ : ∃ wo, wo = wr := ⟨_, rfl⟩
    have St := Lib.hid st
    clear st
    obtain ⟨t0, t1, tf⟩ := St.out.box.cells
    have htl := St.out.box.lt
    by_cases hlt : k < n
    · have e1 := (HO.out.below St.out.old hs).row k (by have := Hn.out; omega)
      have r1 := (HO.out.below St.out.old hs).inner k (by have := Hn.out; omega)
      have hbk : B k < wo.heap.size := by have := HO.out.bs k (by have := Hn.out; omega); have := St.out.old.size; omega
      have hbw : B k < w.heap.size := by have := HO.out.bs k (by have := Hn.out; omega); omega
      have hk0 : (0 : Int) ≤ (k : Int) := by omega
      have hk1 : (k : Int) < (n : Int) := by omega
      have hpl : pre.length ≤ 101 * 300 := by have := St.out.pl; omega
      have hzw : w.heap.size + 1 + 1 ≤ wo.heap.size := by omega
      have hol := Hi.out k hlt
      have HG : Hid (∀ W w3 A' c' v', wo.heap.size ≤ W.heap.size → Blk2 W (w.heap.size + 1) (.slice A' (stpD es p (zss.getD k [])).length c') (.int .i64 (stpQ es p (zss.getD k []))) → Blk2 W w.heap.size (.slice none 0 0) (.int .i64 0) → Apart W (w.heap.size + 1 + 1) A' (stpD es p (zss.getD k [])) v → Below w.heap.size w W → Tg W w3 (w.heap.size + 1 + 1) v v' (pre ++ stpL es p (zss.getD k [])) → PlSt w w3 zss (k + 1) (stpD es p (zss.getD k [])) (stpQ es p (zss.getD k [])) (pre ++ stpL es p (zss.getD k [])) A' c' v') :=
        fun W w3 A' c' v' a1 a2 a3 a4 a5 a6 => St.out.go (by have := Hn.out; omega) a1 a2 a3 a4 a5 a6
      have hck := HO.out.room k (by have := Hn.out; omega)
      generalize C k = ck at e1 hck
      obtain ⟨op, hop⟩ : ∃ op, zss.getD k [] = op := ⟨_, rfl⟩
      rw [hop] at e1 r1 hol HG hck
      have R1 := Lib.hid r1
      clear hop r1
      obtain ⟨el, hel⟩ : ∃ el, es.length = el := ⟨_, rfl⟩
      rw [hel] at t0
      have Hel := Lib.hid hel
      clear hel
      have HU : Hid (stpD es p op = es → stpQ es p op = p → stpL es p op = [-2] → ∀ w3 v', Tg wo w3 (w.heap.size + 1 + 1) v v' (pre ++ [-2]) → PlSt w w3 zss (k + 1) es p (pre ++ [-2]) A c v') := fun h1 h2 h3 w3 v' h4 => by
        have h5 := HG.out wo w3 A c v' (Nat.le_refl _)
        rw [h1, h2, h3] at h5
        exact h5 St.out.box St.out.res St.out.items St.out.old h4
      by_cases h3 : op.length = 3
      case neg =>
        clear hck
        have q1 : stpD es p op = es := by unfold stpD; rw [if_neg h3]
        have q2 : stpQ es p op = p := by unfold stpQ; rw [if_neg h3]
        have q3 : stpL es p op = [-2] := by unfold stpL; rw [if_neg h3]
        replace HU := Lib.hid (HU.out q1 q2 q3)
        clear q1 q2 q3 HG
        obtain ⟨ol, hol'⟩ : ∃ ol, op.length = ol := ⟨_, rfl⟩
        rw [hol'] at h3 hol e1
        have h3' : ((ol : Int) == 3) = false := by simp; omega
        clear hol'
        go_wp2_with (at_builtin; refine wpList_append_own_at _ rfl _ _ 29 rfl (w.heap.size + 1 + 1) 3 i0 _ 1 8 Try.underlying29 Hi0.out Hz0.out Hz1.out Hz2.out rfl (by decide) v (pre).length ((pre).map (Value.int .i64)) rfl ?c0h ⟨(wo).heap.size, 0, none⟩ 1 1 [.int .i64 (-2)] rfl ?c6h ?c1h ?c2h ?c3h ?c4h ?c5h ?_)
        case c0h => exact (St.out.own).alloc _
        try case c6h => rfl
        try case c1h => exact new_one_at (w := wo) rfl _ _
        try case c2h => first | (simp [Value.oneCell']; done) | (intro u hu; simp at hu; subst hu; rfl)
        try case c3h => first | (unfold maxLen; omega) | (simp [maxLen]; omega)
        try case c4h => first | omega | (simp; omega)
        try case c5h => first | omega | (simp; omega)
        intro v9 w9 hown hgr _ hat
        have HQ := Lib.hid (HU.out w9 v9 ((Tg.refl St.out.own).push hown hgr hat))
        clear hown hgr hat
        go_wp2
        go_roundw
        case rel => exact ⟨v9, k + 1, es, p, pre ++ [-2], A, c, rfl, by omega, by go_num, HQ.out⟩
        case measure => simp [intOf]; omega
      obtain rfl := hck h3
      clear hck
      obtain ⟨a, b, d, rfl⟩ := len3 h3
      clear h3 hol
      have k0 : wo.cell? ⟨B k, 0, none⟩ = some (.int .i64 a) := (R1.out 0 (by simp)).1
      have k1 : wo.cell? ⟨B k, 1, none⟩ = some (.int .i64 b) := (R1.out 1 (by simp)).1
      have k2 : wo.cell? ⟨B k, 2, none⟩ = some (.int .i64 d) := (R1.out 2 (by simp)).1
      simp only [List.length_cons, List.length_nil, Nat.zero_add, Nat.reduceAdd] at e1
      generalize B k = gb at e1 hbk hbw k0 k1 k2
      by_cases hin : 0 ≤ a ∧ a ≤ 2
      case neg =>
        have a0 : ¬ a = 0 := by omega
        have a1 : ¬ a = 1 := by omega
        have a2 : ¬ a = 2 := by omega
        have q1 : stpD es p [a, b, d] = es := by simp [stpD, a0, a1, a2]
        have q2 : stpQ es p [a, b, d] = p := by simp [stpQ, a0]
        have q3 : stpL es p [a, b, d] = [-2] := by simp [stpL, a0, a1, a2]
        clear a0 a1 a2
        replace HU := Lib.hid (HU.out q1 q2 q3)
        clear q1 q2 q3 HG
        have HIn : Hid (∀ W, Calls Try.prog 50 #[.int .i64 a, .int .i64 0, .int .i64 2] W fun e w' => e = .returned (.bool false) ∧ W = w') := fun W => by have := Tick.in_any a 0 2 W; rw [Tick.inB_false (by omega)] at this; exact this
        clear hin
        go_wp2_with fail
        refine (HIn.out _).mono ?_
        rintro e w' ⟨rfl, rfl⟩
        go_wp2_with (at_builtin; refine wpList_append_own_at _ rfl _ _ 29 rfl (w.heap.size + 1 + 1) 3 i0 _ 1 8 Try.underlying29 Hi0.out Hz0.out Hz1.out Hz2.out rfl (by decide) v (pre).length ((pre).map (Value.int .i64)) rfl ?c0h ⟨(wo).heap.size, 0, none⟩ 1 1 [.int .i64 (-2)] rfl ?c6h ?c1h ?c2h ?c3h ?c4h ?c5h ?_)
        case c0h => exact (St.out.own).alloc _
        try case c6h => rfl
        try case c1h => exact new_one_at (w := wo) rfl _ _
        try case c2h => first | (simp [Value.oneCell']; done) | (intro u hu; simp at hu; subst hu; rfl)
        try case c3h => first | (unfold maxLen; omega) | (simp [maxLen]; omega)
        try case c4h => first | omega | (simp; omega)
        try case c5h => first | omega | (simp; omega)
        intro v9 w9 hown hgr _ hat
        have HQ := Lib.hid (HU.out w9 v9 ((Tg.refl St.out.own).push hown hgr hat))
        clear hown hgr hat
        go_wp2
        go_roundw
        case rel => exact ⟨v9, k + 1, es, p, pre ++ [-2], A, c, rfl, by omega, by go_num, HQ.out⟩
        case measure => simp [intOf]; omega
      clear HU
      have HIn : Hid (∀ W, Calls Try.prog 50 #[.int .i64 a, .int .i64 0, .int .i64 2] W fun e w' => e = .returned (.bool true) ∧ W = w') := fun W => by have := Tick.in_any a 0 2 W; rw [Tick.inB_true (by omega) (by omega)] at this; exact this
      by_cases ha0 : a = 0
      case pos =>
        subst ha0
        have q1 : stpD es p [0, b, d] = schD es p b d := by simp [stpD]
        have q2 : stpQ es p [0, b, d] = schQ es p b d := by simp [stpQ]
        have q3 : stpL es p [0, b, d] = [b2i (schB es p b d)] := by simp [stpL]
        rw [q1, q2, q3] at HG
        clear q1 q2 q3 hin
        go_wp2_with fail
        refine (HIn.out _).mono ?_
        rintro e w' ⟨rfl, rfl⟩
        go_wp2_with fail
        have SB := Lib.hid St.out.box
        have SR := Lib.hid St.out.res
        have SV := Lib.hid St.out.items.dv
        have SO := Lib.hid St.out.own
        have SD := Lib.hid St.out.old
        have zq : wo.heap.size ≤ wo.heap.size := Nat.le_refl _
        have HS0 : Hid (wo.drew.cell? ⟨gb, 1, none⟩ = some (.int .i64 b) ∧ wo.drew.cell? ⟨gb, 2, none⟩ = some (.int .i64 d)) := ⟨k1, k2⟩
        refine wp_region_held_drew (S := fun V => V.cell? ⟨gb, 1, none⟩ = some (.int .i64 b) ∧ V.cell? ⟨gb, 2, none⟩ = some (.int .i64 d)) (by kernel_rfl) HS0.out (fun _ => ?_)
        refine wpAnyH_take (i := 1) (v := (.slice (some ⟨gb, 0, none⟩) 3 3)) rfl (by kernel_rfl) (by kernel_rfl) (by kernel_rfl) (fun _ _ _ h => h) (.inl ⟨rfl, fun V hS => ?y0⟩) (HS0).out ?_
        case y0 =>
          obtain ⟨s3, s4⟩ := hS
          go_simp
        go_simp
        refine wpAnyH_take (i := 2) (v := (.pointer (some ⟨gb, 1, none⟩))) rfl (by kernel_rfl) (by kernel_rfl) (by kernel_rfl) (fun _ _ _ h => h) (.inl ⟨rfl, fun V hS => ?y0⟩) (HS0).out ?_
        case y0 =>
          obtain ⟨s3, s4⟩ := hS
          go_simp
        go_simp
        refine wpAnyH_take (i := 3) (v := (.int .i64 b)) rfl (by kernel_rfl) (by kernel_rfl) (by kernel_rfl) (fun _ _ _ h => h) (.inl ⟨rfl, fun V hS => ?y0⟩) (HS0).out ?_
        case y0 =>
          obtain ⟨s3, s4⟩ := hS
          go_simp
        go_simp
        refine wpAnyH_take (i := 4) (v := (.slice (some ⟨gb, 0, none⟩) 3 3)) rfl (by kernel_rfl) (by kernel_rfl) (by kernel_rfl) (fun _ _ _ h => h) (.inl ⟨rfl, fun V hS => ?y0⟩) (HS0).out ?_
        case y0 =>
          obtain ⟨s3, s4⟩ := hS
          go_simp
        go_simp
        refine wpAnyH_take (i := 5) (v := (.pointer (some ⟨gb, 2, none⟩))) rfl (by kernel_rfl) (by kernel_rfl) (by kernel_rfl) (fun _ _ _ h => h) (.inl ⟨rfl, fun V hS => ?y0⟩) (HS0).out ?_
        case y0 =>
          obtain ⟨s3, s4⟩ := hS
          go_simp
        go_simp
        refine wpAnyH_take (i := 6) (v := (.int .i64 d)) rfl (by kernel_rfl) (by kernel_rfl) (by kernel_rfl) (fun _ _ _ h => h) (.inl ⟨rfl, fun V hS => ?y0⟩) (HS0).out ?_
        case y0 =>
          obtain ⟨s3, s4⟩ := hS
          go_simp
        go_simp
        refine wpAnyH_ready (rs := [0]) (by kernel_rfl) (by simp) (AllReadyH.cons rfl (fun J hJ => ?_) AllReadyH.nil)
        go_simp
        refine hJ.out _ _ HS0.out (fun _ => ?_)
        clear hJ J
        refine wpAnyH_ready (rs := [7]) (by kernel_rfl) (by simp) (AllReadyH.cons rfl (fun J hJ => ?_) AllReadyH.nil)
        go_simp
        refine (specSchedule_any A el c _ _ es p b d wo.drew Hel.out (by have := St.out.few; have := Hel.out; omega) (SV.out.of_block fun _ _ _ => rfl) (Nat.le_refl _)).mono ?_
        rintro e w1 ⟨A1, c1, rfl, v1, b1⟩
        have b01 := bel_of_drew b1
        have HS1 : Hid (w1.cell? ⟨gb, 1, none⟩ = some (.int .i64 b) ∧ w1.cell? ⟨gb, 2, none⟩ = some (.int .i64 d)) := ⟨bkeep HS0.out.1 b1, bkeep HS0.out.2 b1⟩
        have AP : Hid (Apart w1 (w.heap.size + 1 + 1) A1 (schD es p b d) v) := apart_new (w := wo) v1 SO.out (by omega)
        have BX := Lib.hid (SB.out.below b01)
        have RS := Lib.hid (SR.out.below b01)
        have BW := Lib.hid (bel_trans SD.out b01)
        have OW := Lib.hid (owns_below SO.out b01 (Nat.le_refl _))
        have z1 : wo.heap.size ≤ w1.heap.size := b01.size
        clear b1 b01 v1 SB SR SV SO SD t0 t1 tf k0 k1 k2
        obtain ⟨n1, hn1⟩ : ∃ n1, (schD es p b d).length = n1 := ⟨_, rfl⟩
        obtain ⟨q1, hq1⟩ : ∃ q1, schQ es p b d = q1 := ⟨_, rfl⟩
        rw [hn1, hq1] at HG
        rw [hn1, hq1]
        clear hn1 hq1
        obtain ⟨vb, hvb⟩ : ∃ vb, schB es p b d = vb := ⟨_, rfl⟩
        rw [hvb] at HG ⊢
        clear hvb
        refine hJ.out _ _ HS1.out (fun _ => ?_)
        clear hJ J
        go_simp
        refine wpAnyH_take (i := 8) (v := (.tuple #[.agg #[.slice A1 n1 c1, .int .i64 q1], .bool vb])) rfl (by kernel_rfl) (by kernel_rfl) (by kernel_rfl) (fun _ _ _ h => h) (.inl ⟨rfl, fun V hS => ?y0⟩) (HS1).out ?_
        case y0 =>
          obtain ⟨s3, s4⟩ := hS
          go_simp
        go_simp
        refine wpAnyH_take (i := 9) (v := (.agg #[.slice A1 n1 c1, .int .i64 q1])) rfl (by kernel_rfl) (by kernel_rfl) (by kernel_rfl) (fun _ _ _ h => h) (.inl ⟨rfl, fun V hS => ?y0⟩) (HS1).out ?_
        case y0 =>
          obtain ⟨s3, s4⟩ := hS
          go_simp
        go_simp
        refine wpAnyH_take (i := 10) (v := (.bool vb)) rfl (by kernel_rfl) (by kernel_rfl) (by kernel_rfl) (fun _ _ _ h => h) (.inl ⟨rfl, fun V hS => ?y0⟩) (HS1).out ?_
        case y0 =>
          obtain ⟨s3, s4⟩ := hS
          go_simp
        go_simp
        obtain ⟨x0, x1, xf⟩ := BX.out.cells
        have hxl := BX.out.lt
        refine wpAnyH_ready (rs := [11]) (by kernel_rfl) (by simp) (AllReadyH.cons rfl (fun J hJ => ?_) AllReadyH.nil)
        go_simp
        obtain ⟨W2, hW2⟩ : ∃ W2, (w1.setCell ⟨w.heap.size + 1, 0, none⟩ (.slice A1 n1 c1)).setCell ⟨w.heap.size + 1, 1, none⟩ (.int .i64 q1) = W2 := ⟨_, rfl⟩
        have hk2 : ∀ j, j ≠ w.heap.size + 1 → W2.heap[j]? = w1.heap[j]? := fun j hj => by rw [← hW2, heap_setCell_other _ _ _ _ hj, heap_setCell_other _ _ _ _ hj]
        have Z2 : Hid (W2.heap.size = w1.heap.size) := by
          show W2.heap.size = w1.heap.size
          rw [← hW2]
          simp [World.setCell]
        have z2 : w1.heap.size ≤ W2.heap.size := by have := Z2.out; omega
        have BX2 : Hid (Blk2 W2 (w.heap.size + 1) (.slice A1 n1 c1) (.int .i64 q1)) := by rw [← hW2]; exact BX.out.put _ _
        have AP2 : Hid (Apart W2 (w.heap.size + 1 + 1) A1 (schD es p b d) v) := by rw [← hW2]; exact AP.out.put (by omega)
        have BW2 : Hid (Below w.heap.size w W2) := by rw [← hW2]; exact (BW.out.setCell (show w.heap.size ≤ w.heap.size + 1 by omega) _).setCell (show w.heap.size ≤ w.heap.size + 1 by omega) _
        rw [hW2]
        clear hW2 x0 x1 xf
        have RS2 : Hid (Blk2 W2 w.heap.size (.slice none 0 0) (.int .i64 0)) := RS.out.of_block (hk2 _ (by omega))
        have OW2 : Hid (W2.ownsRow (w.heap.size + 1 + 1) 3 1 v pre.length (pre.map (Value.int .i64))) := owns_other OW.out hk2 (fun e => by have := (OW.out.lt _ e.symm).1; omega)
        have HS2 : Hid (W2.cell? ⟨gb, 1, none⟩ = some (.int .i64 b) ∧ W2.cell? ⟨gb, 2, none⟩ = some (.int .i64 d)) := ⟨(World.cell?_of_block (w := w1) (a := ⟨gb, 1, none⟩) (hk2 gb (by omega))).trans HS1.out.1, (World.cell?_of_block (w := w1) (a := ⟨gb, 2, none⟩) (hk2 gb (by omega))).trans HS1.out.2⟩
        replace HG : Hid (∀ w3 v', Tg W2 w3 (w.heap.size + 1 + 1) v v' (pre ++ [b2i vb]) → PlSt w w3 zss (k + 1) (schD es p b d) q1 (pre ++ [b2i vb]) A1 c1 v') := fun w3 v' ht => HG.out W2 w3 A1 c1 v' (by omega) BX2.out RS2.out AP2.out BW2.out ht
        clear hk2 BX RS BW OW AP HS1
        refine hJ.out _ _ HS2.out (fun _ => ?_)
        clear hJ J
        refine wpAnyH_ready (rs := [12]) (by kernel_rfl) (by simp) (AllReadyH.cons rfl (fun J hJ => ?_) AllReadyH.nil)
        go_simp
        refine hJ.out _ _ HS2.out (fun _ => ?_)
        clear hJ J
        refine wpAnyH_done (by kernel_rfl) ?_ _
        cases vb
        · have HG3 : Hid (∀ w3 v', Tg W2 w3 (w.heap.size + 1 + 1) v v' (pre ++ [0]) → PlSt w w3 zss (k + 1) (schD es p b d) q1 (pre ++ [0]) A1 c1 v') := HG.out
          go_wp2_with (at_builtin; refine wpList_append_own_at _ rfl _ _ 29 rfl (w.heap.size + 1 + 1) 3 i0 _ 1 8 Try.underlying29 Hi0.out Hz0.out Hz1.out Hz2.out rfl (by decide) v (pre).length ((pre).map (Value.int .i64)) rfl ?c0h ⟨(W2).heap.size, 0, none⟩ 1 1 [.int .i64 0] rfl ?c6h ?c1h ?c2h ?c3h ?c4h ?c5h ?_)
          case c0h => exact (OW2.out).alloc _
          try case c6h => rfl
          try case c1h => exact new_one_at (w := W2) rfl _ _
          try case c2h => first | (simp [Value.oneCell']; done) | (intro u hu; simp at hu; subst hu; rfl)
          try case c3h => first | (unfold maxLen; omega) | (simp [maxLen]; omega)
          try case c4h => first | omega | (simp; omega)
          try case c5h => first | omega | (simp; omega)
          intro v9 w9 hown hgr _ hat
          have HQ := Lib.hid (HG3.out w9 v9 ((Tg.refl OW2.out).push hown hgr hat))
          clear hown hgr hat
          go_wp2
          go_roundw
          case rel => exact ⟨v9, k + 1, schD es p b d, q1, pre ++ [0], A1, c1, rfl, by omega, by go_num, HQ.out⟩
          case measure => simp [intOf]; omega
        · have HG3 : Hid (∀ w3 v', Tg W2 w3 (w.heap.size + 1 + 1) v v' (pre ++ [1]) → PlSt w w3 zss (k + 1) (schD es p b d) q1 (pre ++ [1]) A1 c1 v') := HG.out
          go_wp2_with (at_builtin; refine wpList_append_own_at _ rfl _ _ 29 rfl (w.heap.size + 1 + 1) 3 i0 _ 1 8 Try.underlying29 Hi0.out Hz0.out Hz1.out Hz2.out rfl (by decide) v (pre).length ((pre).map (Value.int .i64)) rfl ?c0h ⟨(W2).heap.size, 0, none⟩ 1 1 [.int .i64 1] rfl ?c6h ?c1h ?c2h ?c3h ?c4h ?c5h ?_)
          case c0h => exact (OW2.out).alloc _
          try case c6h => rfl
          try case c1h => exact new_one_at (w := W2) rfl _ _
          try case c2h => first | (simp [Value.oneCell']; done) | (intro u hu; simp at hu; subst hu; rfl)
          try case c3h => first | (unfold maxLen; omega) | (simp [maxLen]; omega)
          try case c4h => first | omega | (simp; omega)
          try case c5h => first | omega | (simp; omega)
          intro v9 w9 hown hgr _ hat
          have HQ := Lib.hid (HG3.out w9 v9 ((Tg.refl OW2.out).push hown hgr hat))
          clear hown hgr hat
          go_wp2
          go_roundw
          case rel => exact ⟨v9, k + 1, schD es p b d, q1, pre ++ [1], A1, c1, rfl, by omega, by go_num, HQ.out⟩
          case measure => simp [intOf]; omega
      by_cases ha1 : a = 1
      case pos =>
        subst ha1
        have q1 : stpD es p [1, b, d] = canD es p b := by simp [stpD]
        have q2 : stpQ es p [1, b, d] = p := by simp [stpQ]
        have q3 : stpL es p [1, b, d] = [b2i (canB es p b)] := by simp [stpL]
        rw [q1, q2, q3] at HG
        clear q1 q2 q3 hin
        go_wp2_with fail
        refine (HIn.out _).mono ?_
        rintro e w' ⟨rfl, rfl⟩
        go_wp2_with fail
        have SB := Lib.hid St.out.box
        have SR := Lib.hid St.out.res
        have SV := Lib.hid St.out.items.dv
        have SO := Lib.hid St.out.own
        have SD := Lib.hid St.out.old
        have zq : wo.heap.size ≤ wo.heap.size := Nat.le_refl _
        have HS0 : Hid (wo.drew.cell? ⟨gb, 1, none⟩ = some (.int .i64 b) ∧ wo.drew.cell? ⟨gb, 2, none⟩ = some (.int .i64 d)) := ⟨k1, k2⟩
        refine wp_region_held_drew (S := fun V => V.cell? ⟨gb, 1, none⟩ = some (.int .i64 b) ∧ V.cell? ⟨gb, 2, none⟩ = some (.int .i64 d)) (by kernel_rfl) HS0.out (fun _ => ?_)
        refine wpAnyH_take (i := 1) (v := (.slice (some ⟨gb, 0, none⟩) 3 3)) rfl (by kernel_rfl) (by kernel_rfl) (by kernel_rfl) (fun _ _ _ h => h) (.inl ⟨rfl, fun V hS => ?y0⟩) (HS0).out ?_
        case y0 =>
          obtain ⟨s3, s4⟩ := hS
          go_simp
        go_simp
        refine wpAnyH_take (i := 2) (v := (.pointer (some ⟨gb, 1, none⟩))) rfl (by kernel_rfl) (by kernel_rfl) (by kernel_rfl) (fun _ _ _ h => h) (.inl ⟨rfl, fun V hS => ?y0⟩) (HS0).out ?_
        case y0 =>
          obtain ⟨s3, s4⟩ := hS
          go_simp
        go_simp
        refine wpAnyH_take (i := 3) (v := (.int .i64 b)) rfl (by kernel_rfl) (by kernel_rfl) (by kernel_rfl) (fun _ _ _ h => h) (.inl ⟨rfl, fun V hS => ?y0⟩) (HS0).out ?_
        case y0 =>
          obtain ⟨s3, s4⟩ := hS
          go_simp
        go_simp
        refine wpAnyH_ready (rs := [0]) (by kernel_rfl) (by simp) (AllReadyH.cons rfl (fun J hJ => ?_) AllReadyH.nil)
        go_simp
        refine hJ.out _ _ HS0.out (fun _ => ?_)
        clear hJ J
        refine wpAnyH_ready (rs := [4]) (by kernel_rfl) (by simp) (AllReadyH.cons rfl (fun J hJ => ?_) AllReadyH.nil)
        go_simp
        refine ((fun W h1 h2 h3 h4 => (specCancel_any A el c _ _ es p b W h1 h2 h3 h4).mono fun _ _ h => h.plain) wo.drew Hel.out (by have := St.out.few; have := Hel.out; omega) (SV.out.of_block fun _ _ _ => rfl) (Nat.le_refl _)).mono ?_
        rintro e w1 ⟨A1, c1, rfl, v1, b1⟩
        have b01 := bel_of_drew b1
        have HS1 : Hid (w1.cell? ⟨gb, 1, none⟩ = some (.int .i64 b) ∧ w1.cell? ⟨gb, 2, none⟩ = some (.int .i64 d)) := ⟨bkeep HS0.out.1 b1, bkeep HS0.out.2 b1⟩
        have AP : Hid (Apart w1 (w.heap.size + 1 + 1) A1 (canD es p b) v) := apart_new (w := wo) v1 SO.out (by omega)
        have BX := Lib.hid (SB.out.below b01)
        have RS := Lib.hid (SR.out.below b01)
        have BW := Lib.hid (bel_trans SD.out b01)
        have OW := Lib.hid (owns_below SO.out b01 (Nat.le_refl _))
        have z1 : wo.heap.size ≤ w1.heap.size := b01.size
        clear b1 b01 v1 SB SR SV SO SD t0 t1 tf k0 k1 k2
        obtain ⟨n1, hn1⟩ : ∃ n1, (canD es p b).length = n1 := ⟨_, rfl⟩
        rw [hn1] at HG
        rw [hn1]
        clear hn1
        obtain ⟨vb, hvb⟩ : ∃ vb, canB es p b = vb := ⟨_, rfl⟩
        rw [hvb] at HG ⊢
        clear hvb
        refine hJ.out _ _ HS1.out (fun _ => ?_)
        clear hJ J
        go_simp
        refine wpAnyH_take (i := 5) (v := (.tuple #[.agg #[.slice A1 n1 c1, .int .i64 p], .bool vb])) rfl (by kernel_rfl) (by kernel_rfl) (by kernel_rfl) (fun _ _ _ h => h) (.inl ⟨rfl, fun V hS => ?y0⟩) (HS1).out ?_
        case y0 =>
          obtain ⟨s3, s4⟩ := hS
          go_simp
        go_simp
        refine wpAnyH_take (i := 6) (v := (.agg #[.slice A1 n1 c1, .int .i64 p])) rfl (by kernel_rfl) (by kernel_rfl) (by kernel_rfl) (fun _ _ _ h => h) (.inl ⟨rfl, fun V hS => ?y0⟩) (HS1).out ?_
        case y0 =>
          obtain ⟨s3, s4⟩ := hS
          go_simp
        go_simp
        refine wpAnyH_take (i := 7) (v := (.bool vb)) rfl (by kernel_rfl) (by kernel_rfl) (by kernel_rfl) (fun _ _ _ h => h) (.inl ⟨rfl, fun V hS => ?y0⟩) (HS1).out ?_
        case y0 =>
          obtain ⟨s3, s4⟩ := hS
          go_simp
        go_simp
        obtain ⟨x0, x1, xf⟩ := BX.out.cells
        have hxl := BX.out.lt
        refine wpAnyH_ready (rs := [8]) (by kernel_rfl) (by simp) (AllReadyH.cons rfl (fun J hJ => ?_) AllReadyH.nil)
        go_simp
        obtain ⟨W2, hW2⟩ : ∃ W2, (w1.setCell ⟨w.heap.size + 1, 0, none⟩ (.slice A1 n1 c1)).setCell ⟨w.heap.size + 1, 1, none⟩ (.int .i64 p) = W2 := ⟨_, rfl⟩
        have hk2 : ∀ j, j ≠ w.heap.size + 1 → W2.heap[j]? = w1.heap[j]? := fun j hj => by rw [← hW2, heap_setCell_other _ _ _ _ hj, heap_setCell_other _ _ _ _ hj]
        have Z2 : Hid (W2.heap.size = w1.heap.size) := by
          show W2.heap.size = w1.heap.size
          rw [← hW2]
          simp [World.setCell]
        have z2 : w1.heap.size ≤ W2.heap.size := by have := Z2.out; omega
        have BX2 : Hid (Blk2 W2 (w.heap.size + 1) (.slice A1 n1 c1) (.int .i64 p)) := by rw [← hW2]; exact BX.out.put _ _
        have AP2 : Hid (Apart W2 (w.heap.size + 1 + 1) A1 (canD es p b) v) := by rw [← hW2]; exact AP.out.put (by omega)
        have BW2 : Hid (Below w.heap.size w W2) := by rw [← hW2]; exact (BW.out.setCell (show w.heap.size ≤ w.heap.size + 1 by omega) _).setCell (show w.heap.size ≤ w.heap.size + 1 by omega) _
        rw [hW2]
        clear hW2 x0 x1 xf
        have RS2 : Hid (Blk2 W2 w.heap.size (.slice none 0 0) (.int .i64 0)) := RS.out.of_block (hk2 _ (by omega))
        have OW2 : Hid (W2.ownsRow (w.heap.size + 1 + 1) 3 1 v pre.length (pre.map (Value.int .i64))) := owns_other OW.out hk2 (fun e => by have := (OW.out.lt _ e.symm).1; omega)
        have HS2 : Hid (W2.cell? ⟨gb, 1, none⟩ = some (.int .i64 b) ∧ W2.cell? ⟨gb, 2, none⟩ = some (.int .i64 d)) := ⟨(World.cell?_of_block (w := w1) (a := ⟨gb, 1, none⟩) (hk2 gb (by omega))).trans HS1.out.1, (World.cell?_of_block (w := w1) (a := ⟨gb, 2, none⟩) (hk2 gb (by omega))).trans HS1.out.2⟩
        replace HG : Hid (∀ w3 v', Tg W2 w3 (w.heap.size + 1 + 1) v v' (pre ++ [b2i vb]) → PlSt w w3 zss (k + 1) (canD es p b) p (pre ++ [b2i vb]) A1 c1 v') := fun w3 v' ht => HG.out W2 w3 A1 c1 v' (by omega) BX2.out RS2.out AP2.out BW2.out ht
        clear hk2 BX RS BW OW AP HS1
        refine hJ.out _ _ HS2.out (fun _ => ?_)
        clear hJ J
        refine wpAnyH_ready (rs := [9]) (by kernel_rfl) (by simp) (AllReadyH.cons rfl (fun J hJ => ?_) AllReadyH.nil)
        go_simp
        refine hJ.out _ _ HS2.out (fun _ => ?_)
        clear hJ J
        refine wpAnyH_done (by kernel_rfl) ?_ _
        cases vb
        · have HG3 : Hid (∀ w3 v', Tg W2 w3 (w.heap.size + 1 + 1) v v' (pre ++ [0]) → PlSt w w3 zss (k + 1) (canD es p b) p (pre ++ [0]) A1 c1 v') := HG.out
          go_wp2_with (at_builtin; refine wpList_append_own_at _ rfl _ _ 29 rfl (w.heap.size + 1 + 1) 3 i0 _ 1 8 Try.underlying29 Hi0.out Hz0.out Hz1.out Hz2.out rfl (by decide) v (pre).length ((pre).map (Value.int .i64)) rfl ?c0h ⟨(W2).heap.size, 0, none⟩ 1 1 [.int .i64 0] rfl ?c6h ?c1h ?c2h ?c3h ?c4h ?c5h ?_)
          case c0h => exact (OW2.out).alloc _
          try case c6h => rfl
          try case c1h => exact new_one_at (w := W2) rfl _ _
          try case c2h => first | (simp [Value.oneCell']; done) | (intro u hu; simp at hu; subst hu; rfl)
          try case c3h => first | (unfold maxLen; omega) | (simp [maxLen]; omega)
          try case c4h => first | omega | (simp; omega)
          try case c5h => first | omega | (simp; omega)
          intro v9 w9 hown hgr _ hat
          have HQ := Lib.hid (HG3.out w9 v9 ((Tg.refl OW2.out).push hown hgr hat))
          clear hown hgr hat
          go_wp2
          go_roundw
          case rel => exact ⟨v9, k + 1, canD es p b, p, pre ++ [0], A1, c1, rfl, by omega, by go_num, HQ.out⟩
          case measure => simp [intOf]; omega
        · have HG3 : Hid (∀ w3 v', Tg W2 w3 (w.heap.size + 1 + 1) v v' (pre ++ [1]) → PlSt w w3 zss (k + 1) (canD es p b) p (pre ++ [1]) A1 c1 v') := HG.out
          go_wp2_with (at_builtin; refine wpList_append_own_at _ rfl _ _ 29 rfl (w.heap.size + 1 + 1) 3 i0 _ 1 8 Try.underlying29 Hi0.out Hz0.out Hz1.out Hz2.out rfl (by decide) v (pre).length ((pre).map (Value.int .i64)) rfl ?c0h ⟨(W2).heap.size, 0, none⟩ 1 1 [.int .i64 1] rfl ?c6h ?c1h ?c2h ?c3h ?c4h ?c5h ?_)
          case c0h => exact (OW2.out).alloc _
          try case c6h => rfl
          try case c1h => exact new_one_at (w := W2) rfl _ _
          try case c2h => first | (simp [Value.oneCell']; done) | (intro u hu; simp at hu; subst hu; rfl)
          try case c3h => first | (unfold maxLen; omega) | (simp [maxLen]; omega)
          try case c4h => first | omega | (simp; omega)
          try case c5h => first | omega | (simp; omega)
          intro v9 w9 hown hgr _ hat
          have HQ := Lib.hid (HG3.out w9 v9 ((Tg.refl OW2.out).push hown hgr hat))
          clear hown hgr hat
          go_wp2
          go_roundw
          case rel => exact ⟨v9, k + 1, canD es p b, p, pre ++ [1], A1, c1, rfl, by omega, by go_num, HQ.out⟩
          case measure => simp [intOf]; omega
      by_cases ha2 : a = 2
      case pos =>
        subst ha2
        have q1 : stpD es p [2, b, d] = popD es p b := by simp [stpD]
        have q2 : stpQ es p [2, b, d] = p := by simp [stpQ]
        have q3 : stpL es p [2, b, d] = popL es p b ++ [-1] := by simp [stpL]
        rw [q1, q2, q3] at HG
        clear q1 q2 q3 hin
        go_wp2_with fail
        refine (HIn.out _).mono ?_
        rintro e w' ⟨rfl, rfl⟩
        go_wp2_with fail
        obtain ⟨wq, hwq⟩ : ∃ wq, wo.alloc (.cells #[] 3) = wq := ⟨_, rfl⟩
        have bq : Below wo.heap.size wo wq := by rw [← hwq]; exact bel_alloc _ _
        rw [hwq]
        clear hwq
        have SB := Lib.hid (St.out.box.below bq)
        have SR := Lib.hid (St.out.res.below bq)
        have SV : Hid (DV wq (w.heap.size + 1 + 1) wq.heap.size A es) := (St.out.items.dv.below bq (Nat.le_refl _)).wide (Nat.le_refl _) bq.size
        have SO := Lib.hid (owns_below St.out.own bq (Nat.le_refl _))
        have SD := Lib.hid (bel_trans St.out.old bq)
        have zq : wo.heap.size ≤ wq.heap.size := bq.size
        replace k1 := bkeep k1 bq
        replace k2 := bkeep k2 bq
        clear bq t0 t1 tf
        obtain ⟨t0, t1, tf⟩ := SB.out.cells
        rw [Hel.out] at t0
        have HS0 : Hid (wq.drew.cell? ⟨gb, 1, none⟩ = some (.int .i64 b) ∧ wq.drew.cell? ⟨gb, 2, none⟩ = some (.int .i64 d)) := ⟨k1, k2⟩
        refine wp_region_held_drew (S := fun V => V.cell? ⟨gb, 1, none⟩ = some (.int .i64 b) ∧ V.cell? ⟨gb, 2, none⟩ = some (.int .i64 d)) (by kernel_rfl) HS0.out (fun _ => ?_)
        refine wpAnyH_take (i := 1) (v := (.slice (some ⟨gb, 0, none⟩) 3 3)) rfl (by kernel_rfl) (by kernel_rfl) (by kernel_rfl) (fun _ _ _ h => h) (.inl ⟨rfl, fun V hS => ?y0⟩) (HS0).out ?_
        case y0 =>
          obtain ⟨s3, s4⟩ := hS
          go_simp
        go_simp
        refine wpAnyH_take (i := 2) (v := (.pointer (some ⟨gb, 1, none⟩))) rfl (by kernel_rfl) (by kernel_rfl) (by kernel_rfl) (fun _ _ _ h => h) (.inl ⟨rfl, fun V hS => ?y0⟩) (HS0).out ?_
        case y0 =>
          obtain ⟨s3, s4⟩ := hS
          go_simp
        go_simp
        refine wpAnyH_take (i := 3) (v := (.int .i64 b)) rfl (by kernel_rfl) (by kernel_rfl) (by kernel_rfl) (fun _ _ _ h => h) (.inl ⟨rfl, fun V hS => ?y0⟩) (HS0).out ?_
        case y0 =>
          obtain ⟨s3, s4⟩ := hS
          go_simp
        go_simp
        refine wpAnyH_ready (rs := [0]) (by kernel_rfl) (by simp) (AllReadyH.cons rfl (fun J hJ => ?_) AllReadyH.nil)
        go_simp
        refine hJ.out _ _ HS0.out (fun _ => ?_)
        clear hJ J
        refine wpAnyH_ready (rs := [4]) (by kernel_rfl) (by simp) (AllReadyH.cons rfl (fun J hJ => ?_) AllReadyH.nil)
        go_simp
        refine (specPop_any A el c _ _ es p b wq.drew Hel.out (by have := St.out.few; have := Hel.out; omega) (SV.out.of_block fun _ _ _ => rfl) (Nat.le_refl _)).mono ?_
        rintro e w1 ⟨A1, c1, I1, j1, rfl, v1, i1, b1⟩
        have b01 := bel_of_drew b1
        have HS1 : Hid (w1.cell? ⟨gb, 1, none⟩ = some (.int .i64 b) ∧ w1.cell? ⟨gb, 2, none⟩ = some (.int .i64 d)) := ⟨bkeep HS0.out.1 b1, bkeep HS0.out.2 b1⟩
        have AP : Hid (Apart w1 (w.heap.size + 1 + 1) A1 (popD es p b) v) := apart_new (w := wq) v1 SO.out (by omega)
        have BX := Lib.hid (SB.out.below b01)
        have RS := Lib.hid (SR.out.below b01)
        have BW := Lib.hid (bel_trans SD.out b01)
        have OW := Lib.hid (owns_below SO.out b01 (Nat.le_refl _))
        have z1 : wq.heap.size ≤ w1.heap.size := b01.size
        have I1' : Hid (IV w1 wq.heap.size w1.heap.size I1 (popL es p b)) := i1
        clear i1
        clear b1 b01 v1 SB SR SV SO SD t0 t1 tf k0 k1 k2
        obtain ⟨n1, hn1⟩ : ∃ n1, (popD es p b).length = n1 := ⟨_, rfl⟩
        rw [hn1] at HG
        rw [hn1]
        clear hn1
        obtain ⟨ids, hids⟩ : ∃ ids, popL es p b = ids := ⟨_, rfl⟩
        have hidl : ids.length ≤ 100 := by rw [← hids]; exact popL_few _ _ _
        rw [hids] at HG I1' ⊢
        clear hids
        refine hJ.out _ _ HS1.out (fun _ => ?_)
        clear hJ J
        go_simp
        refine wpAnyH_take (i := 5) (v := (.tuple #[.agg #[.slice A1 n1 c1, .int .i64 p], .slice I1 ids.length j1])) rfl (by kernel_rfl) (by kernel_rfl) (by kernel_rfl) (fun _ _ _ h => h) (.inl ⟨rfl, fun V hS => ?y0⟩) (HS1).out ?_
        case y0 =>
          obtain ⟨s3, s4⟩ := hS
          go_simp
        go_simp
        refine wpAnyH_take (i := 6) (v := (.agg #[.slice A1 n1 c1, .int .i64 p])) rfl (by kernel_rfl) (by kernel_rfl) (by kernel_rfl) (fun _ _ _ h => h) (.inl ⟨rfl, fun V hS => ?y0⟩) (HS1).out ?_
        case y0 =>
          obtain ⟨s3, s4⟩ := hS
          go_simp
        go_simp
        refine wpAnyH_take (i := 7) (v := (.slice I1 ids.length j1)) rfl (by kernel_rfl) (by kernel_rfl) (by kernel_rfl) (fun _ _ _ h => h) (.inl ⟨rfl, fun V hS => ?y0⟩) (HS1).out ?_
        case y0 =>
          obtain ⟨s3, s4⟩ := hS
          go_simp
        go_simp
        obtain ⟨x0, x1, xf⟩ := BX.out.cells
        have hxl := BX.out.lt
        refine wpAnyH_ready (rs := [8]) (by kernel_rfl) (by simp) (AllReadyH.cons rfl (fun J hJ => ?_) AllReadyH.nil)
        go_simp
        obtain ⟨W2, hW2⟩ : ∃ W2, (w1.setCell ⟨w.heap.size + 1, 0, none⟩ (.slice A1 n1 c1)).setCell ⟨w.heap.size + 1, 1, none⟩ (.int .i64 p) = W2 := ⟨_, rfl⟩
        have hk2 : ∀ j, j ≠ w.heap.size + 1 → W2.heap[j]? = w1.heap[j]? := fun j hj => by rw [← hW2, heap_setCell_other _ _ _ _ hj, heap_setCell_other _ _ _ _ hj]
        have Z2 : Hid (W2.heap.size = w1.heap.size) := by
          show W2.heap.size = w1.heap.size
          rw [← hW2]
          simp [World.setCell]
        have z2 : w1.heap.size ≤ W2.heap.size := by have := Z2.out; omega
        have BX2 : Hid (Blk2 W2 (w.heap.size + 1) (.slice A1 n1 c1) (.int .i64 p)) := by rw [← hW2]; exact BX.out.put _ _
        have AP2 : Hid (Apart W2 (w.heap.size + 1 + 1) A1 (popD es p b) v) := by rw [← hW2]; exact AP.out.put (by omega)
        have BW2 : Hid (Below w.heap.size w W2) := by rw [← hW2]; exact (BW.out.setCell (show w.heap.size ≤ w.heap.size + 1 by omega) _).setCell (show w.heap.size ≤ w.heap.size + 1 by omega) _
        rw [hW2]
        clear hW2 x0 x1 xf
        have RS2 : Hid (Blk2 W2 w.heap.size (.slice none 0 0) (.int .i64 0)) := RS.out.of_block (hk2 _ (by omega))
        have OW2 : Hid (W2.ownsRow (w.heap.size + 1 + 1) 3 1 v pre.length (pre.map (Value.int .i64))) := owns_other OW.out hk2 (fun e => by have := (OW.out.lt _ e.symm).1; omega)
        have HS2 : Hid (W2.cell? ⟨gb, 1, none⟩ = some (.int .i64 b) ∧ W2.cell? ⟨gb, 2, none⟩ = some (.int .i64 d)) := ⟨(World.cell?_of_block (w := w1) (a := ⟨gb, 1, none⟩) (hk2 gb (by omega))).trans HS1.out.1, (World.cell?_of_block (w := w1) (a := ⟨gb, 2, none⟩) (hk2 gb (by omega))).trans HS1.out.2⟩
        have I2 : Hid (IV W2 wq.heap.size w1.heap.size I1 ids) := I1'.out.of_block fun g h1 h2 => hk2 g (by omega)
        replace HG : Hid (∀ w3 v', Tg W2 w3 (w.heap.size + 1 + 1) v v' (pre ++ (ids ++ [-1])) → PlSt w w3 zss (k + 1) (popD es p b) p (pre ++ (ids ++ [-1])) A1 c1 v') := fun w3 v' ht => HG.out W2 w3 A1 c1 v' (by omega) BX2.out RS2.out AP2.out BW2.out ht
        clear hk2 BX RS BW OW AP HS1
        refine hJ.out _ _ HS2.out (fun _ => ?_)
        clear hJ J
        refine wpAnyH_ready (rs := [9]) (by kernel_rfl) (by simp) (AllReadyH.cons rfl (fun J hJ => ?_) AllReadyH.nil)
        go_simp
        refine hJ.out _ _ HS2.out (fun _ => ?_)
        clear hJ J
        refine wpAnyH_done (by kernel_rfl) ?_ _
        go_wp2_with fail
        go_loopw [5, 10] (fun x i wz => ∃ (u : Value) (j : Nat), u = x ∧ j ≤ ids.length ∧ i = .int .i64 j ∧ Tg W2 wz (w.heap.size + 1 + 1) v u (pre ++ ids.take j)) (fun _ i _ => ids.length - (intOf i).toNat)
        case atStart => exact ⟨v, 0, rfl, Nat.zero_le _, rfl, by simpa using Tg.refl OW2.out⟩
        case round =>
          obtain ⟨u, j, hu, hj, rfl, htg⟩ := hrel
          subst hu
          have HTg := Lib.hid htg
          clear htg
          have hprl : (pre ++ ids.take j).length ≤ 101 * 300 + 100 := by rw [List.length_append, List.length_take]; omega
          have hwz : W2.heap.size ≤ wr.heap.size := HTg.out.grown.size
          by_cases hlj : j < ids.length
          · obtain ⟨gq, rfl, hq1, hq2, hq3⟩ := I2.out (by omega)
            have hkp : wr.heap[gq]? = W2.heap[gq]? := HTg.out.grown.block gq (by omega) (fun e => by have := (St.out.own.lt _ e.symm).2; omega)
            have cj := ((hq3.of_block hkp) j hlj).1
            clear hkp hq3
            obtain ⟨x, hx⟩ : ∃ x, ids.getD j 0 = x := ⟨_, rfl⟩
            rw [hx] at cj
            have Htk : Hid (pre ++ ids.take (j + 1) = (pre ++ ids.take j) ++ [x]) := by
              show pre ++ ids.take (j + 1) = (pre ++ ids.take j) ++ [x]
              rw [List.take_succ_eq_append_getElem hlj, List.append_assoc, ← hx]
              simp [List.getD_eq_getElem?_getD, hlj]
            clear hx
            have hj0 : (0 : Int) ≤ (j : Int) := by omega
            have hj1 : (j : Int) < (ids.length : Int) := by omega
            obtain ⟨pj, hpj⟩ : ∃ pj, pre ++ ids.take j = pj := ⟨_, rfl⟩
            rw [hpj] at HTg Htk hprl
            clear hpj
            go_wp2_with (at_builtin; refine wpList_append_own_at _ rfl _ _ 29 rfl (w.heap.size + 1 + 1) 3 i0 _ 1 8 Try.underlying29 Hi0.out Hz0.out Hz1.out Hz2.out rfl (by decide) u (pj).length ((pj).map (Value.int .i64)) rfl ?c0h ⟨(wr).heap.size, 0, none⟩ 1 1 [.int .i64 x] rfl ?c6h ?c1h ?c2h ?c3h ?c4h ?c5h ?_)
            case c0h => exact (HTg.out.own).alloc _
            try case c6h => rfl
            try case c1h => exact new_one_at (w := wr) rfl _ _
            try case c2h => first | (simp [Value.oneCell']; done) | (intro u hu; simp at hu; subst hu; rfl)
            try case c3h => first | (unfold maxLen; omega) | (simp [maxLen]; omega)
            try case c4h => first | omega | (simp; omega)
            try case c5h => first | omega | (simp; omega)
            intro v9 w9 hown hgr _ hat
            have HQ := Lib.hid (HTg.out.push hown hgr hat)
            clear hown hgr hat cj
            go_wp2
            go_roundw
            case rel => exact ⟨v9, j + 1, rfl, by omega, by go_num, by rw [Htk.out]; exact HQ.out⟩
            case measure => simp [intOf]; omega
          · have hje : ids.take j = ids := List.take_of_length_le (by omega)
            rw [hje] at HTg hprl
            have HG2 : Hid (∀ w3 v', Tg W2 w3 (w.heap.size + 1 + 1) v v' ((pre ++ ids) ++ [-1]) → PlSt w w3 zss (k + 1) (popD es p b) p (pre ++ (ids ++ [-1])) A1 c1 v') := fun w3 v' ht => HG.out w3 v' (by rw [← List.append_assoc]; exact ht)
            clear hje
            have hjn : ¬ (j : Int) < (ids.length : Int) := by omega
            obtain ⟨pj, hpj⟩ : ∃ pj, pre ++ ids = pj := ⟨_, rfl⟩
            rw [hpj] at HTg HG2 hprl
            clear hpj
            go_wp2_with (at_builtin; refine wpList_append_own_at _ rfl _ _ 29 rfl (w.heap.size + 1 + 1) 3 i0 _ 1 8 Try.underlying29 Hi0.out Hz0.out Hz1.out Hz2.out rfl (by decide) u (pj).length ((pj).map (Value.int .i64)) rfl ?c0h ⟨(wr).heap.size, 0, none⟩ 1 1 [.int .i64 (-1)] rfl ?c6h ?c1h ?c2h ?c3h ?c4h ?c5h ?_)
            case c0h => exact (HTg.out.own).alloc _
            try case c6h => rfl
            try case c1h => exact new_one_at (w := wr) rfl _ _
            try case c2h => first | (simp [Value.oneCell']; done) | (intro u hu; simp at hu; subst hu; rfl)
            try case c3h => first | (unfold maxLen; omega) | (simp [maxLen]; omega)
            try case c4h => first | omega | (simp; omega)
            try case c5h => first | omega | (simp; omega)
            intro v9 w9 hown hgr _ hat
            have HQ := Lib.hid (HG2.out w9 v9 (HTg.out.push hown hgr hat))
            clear hown hgr hat
            go_wp2
            go_roundw
            case rel => exact ⟨v9, k + 1, popD es p b, p, pre ++ (ids ++ [-1]), A1, c1, rfl, by omega, by go_num, HQ.out⟩
            case measure => simp [intOf]; omega
      omega
    · obtain rfl : k = n := by omega
      obtain ⟨y0, y1, yf⟩ := St.out.res.cells
      have hyl := St.out.res.lt
      obtain ⟨A2, c2, rfl⟩ := owns_form St.out.own
      have hne : w.heap.size ≠ w.heap.size + 1 := by omega
      have HF : Hid (PlayEnd w (ply zss [] 0) (.returned (.tuple #[.agg #[.slice A es.length c, .int .i64 p], .slice A2 pre.length c2])) ((wo.setCell ⟨w.heap.size, 0, none⟩ (.slice A es.length c)).setCell ⟨w.heap.size, 1, none⟩ (.int .i64 p))) := by
        have h1 := St.out.eq
        rw [List.drop_eq_nil_of_le (by have := Hn.out; omega)] at h1
        simp only [ply, List.append_nil] at h1
        rw [h1]
        have hk : ∀ j, j ≠ w.heap.size → ((wo.setCell ⟨w.heap.size, 0, none⟩ (.slice A es.length c)).setCell ⟨w.heap.size, 1, none⟩ (.int .i64 p)).heap[j]? = wo.heap[j]? := fun j hj => by rw [heap_setCell_other _ _ _ _ hj, heap_setCell_other _ _ _ _ hj]
        have hsz : ((wo.setCell ⟨w.heap.size, 0, none⟩ (.slice A es.length c)).setCell ⟨w.heap.size, 1, none⟩ (.int .i64 p)).heap.size = wo.heap.size := by simp [World.setCell]
        refine ⟨A, c, A2, c2, rfl, fun hp => ?_, owns_low (owns_other (p := w.heap.size) St.out.own hk (fun e => by have := (St.out.own.lt _ e.symm).1; omega)) (by omega), (St.out.old.setCell (Nat.le_refl _) _).setCell (Nat.le_refl _) _⟩
        obtain ⟨g, h2, h3, h4, h5, h6⟩ := St.out.items hp
        exact ⟨g, h2, by omega, by rw [hsz]; exact h4, h5.of_block (hk g (by omega)), h6⟩
      obtain ⟨el, hel⟩ : ∃ el, es.length = el := ⟨_, rfl⟩
      rw [hel] at t0 HF
      clear hel
      go_wp2
      exact bodyPost_ret (v := .tuple #[.agg #[.slice A el c, .int .i64 p], .slice A2 pre.length c2]) (by simp [results, Try.results14, go_sem, y0, y1]) rfl HF.out
theorem specPlay_any (gO n cap lo hi : Nat) (B : Nat → Nat) (zss : List (List Int)) (w : World) (hn : zss.length = n) (hm : n ≤ 1048576) (hi0 : ∀ i, i < n → (zss.getD i []).length ≤ 1048576) (h : SS w lo hi gO B zss) (hs : hi ≤ w.heap.size) :
    Calls Try.prog 14 #[.slice (some ⟨gO, 0, none⟩) n cap] w (PlayEnd w (plyA zss)) := specPlay_rows gO n cap hi B _ zss w hn hm hi0 h.rs hs
end Go.Proofs.Ytnmhdbfemobhkaa.Hp
