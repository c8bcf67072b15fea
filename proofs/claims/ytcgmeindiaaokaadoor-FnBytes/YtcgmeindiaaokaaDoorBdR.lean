/- The program's numberAt. -/
import Derived.Test.YtcgmeindiaaokaaDoorBdG
import Derived.Test.YtcgmeindiaaokaaDoorBdE
namespace Go.Proofs.YtcgmeindiaaokaaDoor.By
open Go.RowKit Go.Deep Base Rw Rng
attribute [local go_sem] Oper.semAt_some

/-- What numberAt owes. -/
def EndN (w : World) (zs : List Int) (at_ : Int) (p : Addr) (e : Ending) (w' : World) : Prop :=
  Below w.heap.size w w' ∧ ((∃ x m, takeN zs at_ = some (x, m) ∧ e = .returned (.tuple #[.int .i64 x, .int .i64 m, .nilIface])) ∨ (takeN zs at_ = none ∧ e = .returned (.tuple #[.int .i64 0, .int .i64 0, .iface 99 (.pointer (some p))])))

theorem val_at (gs : List Int) (x : Nat) (h : x < gs.length) : val (gs.drop x) = gs.getD x 0 % 128 + 128 * val (gs.drop (x + 1)) := by
  rw [List.drop_eq_getElem_cons h, val]
  simp [List.getD_eq_getElem?_getD, h]
theorem val_small (gs : List Int) (k : Nat) (h : gs.length ≤ 5) (hk : 1 ≤ k) : 0 ≤ val (gs.drop k) ∧ val (gs.drop k) < 268435456 := by
  refine ⟨val_nonneg _, ?_⟩
  have h1 := val_room (gs.drop k)
  have h2 : (gs.drop k).length ≤ 4 := by rw [List.length_drop]; omega
  have h3 : room (gs.drop k).length ≤ 268435456 := by
    generalize (gs.drop k).length = m at h2
    have : m = 0 ∨ m = 1 ∨ m = 2 ∨ m = 3 ∨ m = 4 := by omega
    rcases this with rfl | rfl | rfl | rfl | rfl <;> simp [room]
  omega

/-- Behind the turn of the block for deferred calls. -/
theorem put_below {w W : World} {D B : Nat} (hK : W.heap[D]? = some (.deferred (some []))) (h : Below B w W) (hD : B ≤ D) : Below B w (W.putObj D (.deferred none)) :=
  h.trans ((Below.refl B W).grown (grownBy_putObj' W D (.deferred none)) (by have := (Array.getElem?_eq_some_iff.1 hK).1; omega) (fun k e => by cases e; exact hD))

/-- Between two rounds: the number's box. -/
structure NumI (xb : Nat) (W2 : World) (x : Int) (W : World) : Prop where
  box : W.heap[xb]? = some (.cells #[.int .i64 x] 3 (0, 0))
  turns : Turns xb (xb + 1) W2 W
theorem numI_own {xb : Nat} {W2 : World} {f : List Nat → Int} (hb : xb < W2.heap.size) : OwnFrom W2.heap.size (fun pre W => NumI xb W2 (f pre) W) := fun pre X Y row hs' hg hr => by
  have hk : ∀ k, k < W2.heap.size → Y.heap[k]? = X.heap[k]? := fun k hk => hg.block k (Nat.lt_of_lt_of_le hk hs'.turns.size) (fun e => by have := (hr k e.symm).1; omega)
  exact ⟨(hk xb hb).trans hs'.box, ⟨hg.os.trans hs'.turns.os, hg.tape.trans hs'.turns.tape, hg.output.trans hs'.turns.output, Nat.le_trans hs'.turns.size hg.size, fun k h0 h1 => (hk k h0).trans (hs'.turns.block k h0 h1)⟩⟩
theorem NumI.step {xb : Nat} {W2 W : World} {x : Int} (h : NumI xb W2 x W) (y : Int) : NumI xb W2 y (W.setCell ⟨xb, 0, none⟩ (.int .i64 y)) :=
  ⟨by simp [World.setCell, Array.getElem?_modify, h.box], h.turns.setCell (p := ⟨xb, 0, none⟩) (Nat.le_refl _) (Nat.lt_succ_self _) _⟩

set_option maxRecDepth 100000 in
set_option maxHeartbeats 2000000 in
theorem implNumber_any (A : Option Addr) (n cap : Nat) (zs : List Int) (at_ : Int) (p : Addr) (w : World) (hn : zs.length = n) (hm : n ≤ 1048576) (hcap : n ≤ cap) (hcm : cap ≤ 9223372036854775807) (hb : isB zs) (h : BI w A zs) (hp : ErN p w) (ha0 : -9223372036854775808 ≤ at_) (ha1 : at_ ≤ 9223372036854775807) :
    Calls Tryd.prog 38 #[.slice A n cap, .int .i64 at_] w (EndN w zs at_ p) := by
  have HG := Lib.hid (implGroups_any A n cap zs at_ p w hn hm hcap hcm hb h hp ha0 ha1)
  have HS : Hid (∀ gs, grpA zs at_ = some gs → gs.length ≤ 5 ∧ 1 ≤ gs.length ∧ 0 ≤ at_ ∧ at_ + gs.length ≤ n ∧ isB gs) := fun gs hg => by
    obtain ⟨_, h2, h3, h4, h5, h6⟩ := grpA_some hb hg
    exact ⟨h2, h3, h4, by omega, h6⟩
  have HP := Lib.hid hp
  have HT := Lib.hid (takeN_grp zs at_)
  clear hn hb h hp
  refine callsIn_wide (n := 3).1 (callsIn_of_wp_marks Tryd.func38 rfl trivial ?_ rfl)
  refine wpIn_wide.2 ?_
  simp only [Tryd.ntmps38, List.size_toArray, List.length_cons, List.length_nil, Nat.reduceAdd, Nat.reduceSub, Array.replicate_succ, Array.replicate_zero, List.push_toArray, List.append_toArray, List.nil_append, List.cons_append]
  go_wp2_with fail
  refine HG.out.mono ?_
  rintro e w1 ⟨b1, (⟨gs, A1, c1, hg, rfl, hrow⟩ | ⟨hg, rfl⟩)⟩
  case inr =>
    have He : Hid (takeN zs at_ = none) := by show _ = _; rw [HT.out, hg]
    have B1 := Lib.hid b1
    clear b1 hg
    go_wp2_with fail
    exact ⟨.tuple #[.int .i64 0, .int .i64 0, .iface 99 (.pointer (some p))], by simp [results, Tryd.results38, go_sem], B1.out, .inr ⟨He.out, rfl⟩⟩
  case inl =>
    obtain ⟨hl5, hl1, hat0, hat1, hgb⟩ := HS.out gs hg
    have B1 := Lib.hid b1
    have HR := Lib.hid hrow
    have HB := Lib.hid hgb
    have Hg : Hid (takeN zs at_ = if putN (val gs) = gs then some (val gs, at_ + gs.length) else none) := by show _ = _; rw [HT.out, hg]
    clear b1 hrow hgb hg HG HS HT
    go_wp2_with fail
    obtain ⟨xb, hxb⟩ : ∃ xb, w1.heap.size = xb := ⟨_, rfl⟩
    have hX0 : (w1.alloc (.cells #[.int .i64 0] 3)).heap[w1.heap.size]? = some (.cells #[.int .i64 0] 3 (0, 0)) := heap_alloc_new _ _
    have BX := Lib.hid (bel_alloc w1 (.cells #[.int .i64 0] 3))
    have sX : (w1.alloc (.cells #[.int .i64 0] 3)).heap.size = w1.heap.size + 1 := by simp
    rw [hxb] at hX0 sX ⊢
    generalize w1.alloc (.cells #[.int .i64 0] 3) = wx at hX0 BX sX ⊢
    refine (back_any A1 gs.length c1 wx).mono ?_
    rw [sX]
    rintro e _ ⟨rfl, rfl⟩
    have hB0 : (wx.alloc (.cells #[.slice A1 gs.length c1] 22)).cell? ⟨wx.heap.size, 0, none⟩ = some (.slice A1 gs.length c1) := by
      have e := heap_alloc_new wx (.cells #[.slice A1 gs.length c1] 22)
      rw [cell_of_row _ _ 0 _ _ (0, 0) e]
      rfl
    have hX2 : (wx.alloc (.cells #[.slice A1 gs.length c1] 22)).heap[xb]? = some (.cells #[.int .i64 0] 3 (0, 0)) := ((bel_alloc wx _).block xb (by omega)).trans hX0
    have B2 := Lib.hid (bel_alloc wx (.cells #[.slice A1 gs.length c1] 22))
    have s2 : (wx.alloc (.cells #[.slice A1 gs.length c1] 22)).heap.size = xb + 1 + 1 := by simp [sX]
    rw [sX] at hB0
    generalize wx.alloc (.cells #[.slice A1 gs.length c1] 22) = W2 at hB0 hX2 B2 s2 ⊢
    have B12 : Hid (Below xb w1 W2) := by rw [← hxb]; exact bel_trans BX.out B2.out
    have Bw2 : Hid (Below w.heap.size w W2) := bel_trans B1.out (by rw [hxb]; exact B12.out)
    have HX2 := Lib.hid hX2
    have HB0 := Lib.hid hB0
    have S2 := Lib.hid s2
    have hxw : w.heap.size ≤ xb := by rw [← hxb]; exact B1.out.size
    have HR2 : Hid (∀ W, Below xb W2 W → BI W A1 gs) := fun W hb => HR.out.below (by rw [hxb]; exact B12.out.trans hb)
    clear hX0 BX sX hX2 hB0 B2 s2 hxb HR
    go_wp2_with fail
    refine wpIn_wide.1 (range_wide (P := Tryd.prog) (lb := #[.pointer (some ⟨xb + 1, 0, none⟩)]) rfl (enters_of Tryd.func64 (by kernel_rfl) rfl) (back1_seq (xb + 1) A1 c1 gs (by omega)) (fun _ => rfl)
      (fun pre W => pre.length ≤ gs.length ∧ NumI xb W2 (val (gs.drop (gs.length - pre.length))) W)
      (fun _ _ => False)
      (OwnFrom.and (ownFrom_pure _ _) (numI_own (f := fun pre => val (gs.drop (gs.length - pre.length))) (by have := S2.out; omega)))
      (fun _ _ _ _ _ hs _ _ => hs)
      ?hR ⟨Nat.zero_le _, ⟨by simpa [val] using HX2.out, Turns.of_below (Below.refl _ _)⟩⟩
      (fun x => { tmps := #[.slice A n cap, .int .i64 at_, undef, undef, .int .i64 0, .int .i64 0, .nilIface, .slice A1 gs.length c1, .nilIface, .pointer (some ⟨xb, 0, none⟩), undef, .int .u8 (gs.getD x 0), .tuple #[.slice A1 gs.length c1, .nilIface], .slice A n cap, .int .i64 at_, .tuple #[.slice A1 gs.length c1, .nilIface], .slice A1 gs.length c1, .nilIface, .nilIface, .bool false, undef, .slice A1 gs.length c1,
        .func (.func 64) #[] #[.pointer (some ⟨xb + 1, 0, none⟩)], .int .i64 x, .int .u8 (gs.getD x 0), undef, undef, undef, undef, undef, undef, undef, undef, undef, undef, undef, undef, undef, undef, undef, undef, undef], defers := [] })
      ?assign ?body ?done ?stop)
    case hR =>
      rintro pre W ⟨hl, hi⟩
      exact ⟨(World.cell?_of_block (w := W2) (hi.turns.block (xb + 1) (by have := S2.out; omega) (.inr (Nat.le_refl _)))).trans HB0.out, HR2.out W (hi.turns.below (Nat.le_refl _) (by have := S2.out; omega)), hl⟩
    case assign =>
      intro lp x W K hK
      simp only [bEnc]
      gi_wp2
      exact hK
    case body =>
      rintro lp pre x W ⟨hl, hi⟩ hx
      have hx' : pre.length + x + 1 = gs.length := hx
      have hv : val (gs.drop (gs.length - (pre ++ [x]).length)) = gs.getD x 0 % 128 + 128 * val (gs.drop (x + 1)) := by
        rw [show gs.length - (pre ++ [x]).length = x by simp; omega]
        exact val_at gs x (by omega)
      have hi' : NumI xb W2 (val (gs.drop (x + 1))) W := by rw [show gs.length - pre.length = x + 1 by omega] at hi; exact hi
      obtain ⟨hv0, hv1⟩ := val_small gs (x + 1) hl5 (by omega)
      obtain ⟨g0, g1⟩ := HB.out.at (i := x) (by omega)
      have c0 : W.cell? ⟨xb, 0, none⟩ = some (.int .i64 (val (gs.drop (x + 1)))) := by simp [World.cell?, hi'.box]
      have f0 : W.frozen? ⟨xb, 0, none⟩ = false := by simp [World.frozen?, hi'.box]
      have HV := Lib.hid hv
      have Hl : Hid ((pre ++ [x]).length ≤ gs.length) := by show _ ≤ _; simp; omega
      have HI := Lib.hid hi'
      clear hv hi' hi hx hx' hl
      generalize val (gs.drop (x + 1)) = y at HV HI c0 hv0 hv1
      generalize gs.getD x 0 = g at HV g0 g1 ⊢
      gi_wp2
      refine ⟨(KeepsOthers.setCell _ _ _).from _, Hl.out, ?_⟩
      rw [HV.out, show g % 128 + 128 * y = y * 128 + g % 128 by omega]
      exact HI.out.step _
    case done =>
      rintro D xs W hD hS ⟨hl, hi⟩ hK
      have hS' : xs.length = gs.length := hS
      rw [hS', Nat.sub_self, List.drop_zero] at hi
      have c0 : W.cell? ⟨xb, 0, none⟩ = some (.int .i64 (val gs)) := by simp [World.cell?, hi.box]
      have HT := Lib.hid hi.turns
      have HK := Lib.hid hK
      have zD : D < W.heap.size := (Array.getElem?_eq_some_iff.1 hK).1
      have zW : W2.heap.size ≤ W.heap.size := hi.turns.size
      have BW := Lib.hid (Bw2.out.trans (hi.turns.below hxw (by have := S2.out; omega)))
      have HRW := Lib.hid (HR2.out W (hi.turns.below (Nat.le_refl _) (by have := S2.out; omega)))
      have hx3 : xb < W.heap.size := by have := S2.out; omega
      clear hS hS' hl hi hK
      go_wp2_with fail
      refine (implPut_any (val gs) W).mono ?_
      rintro e w3 ⟨A3, c3, rfl, v3, b3⟩
      have HRW3 := Lib.hid (HRW.out.below b3)
      have V3 := Lib.hid v3.bi
      have HK3 : Hid (w3.heap[D]? = some (.deferred (some []))) := (b3.block D zD).trans HK.out
      have c3x := (b3.cell (p := ⟨xb, 0, none⟩) hx3).trans c0
      have BW3 := Lib.hid (bel_trans BW.out b3)
      have z3 := b3.size
      clear v3 b3 c0 HK
      have hpl := putN_len (val gs)
      go_wp2_with fail
      refine (equal_any A3 A1 _ c3 gs.length c1 (putN (val gs)) gs w3 rfl rfl (by omega) (by omega) V3.out HRW3.out).mono ?_
      rintro e w4 ⟨rfl, b4⟩
      have HK4 : Hid (w4.heap[D]? = some (.deferred (some []))) := (b4.block D (by omega)).trans HK3.out
      have c4x := (b4.cell (p := ⟨xb, 0, none⟩) (by show xb < _; omega)).trans c3x
      have BW4 := Lib.hid (bel_trans BW3.out b4)
      have z4 := b4.size
      clear b4 c3x HK3
      by_cases heq : putN (val gs) = gs
      · have He : Hid (takeN zs at_ = some (val gs, at_ + gs.length)) := by show _ = _; rw [Hg.out, if_pos heq]
        have hd : decide (putN (val gs) = gs) = true := by simp [heq]
        rw [hd]
        clear hd heq
        go_wp2_with fail
        refine ⟨by simp, .inl ⟨_, _, rfl, run_takeDeferred HK4.out, ?_⟩⟩
        exact ⟨.tuple #[.int .i64 (val gs), .int .i64 (at_ + gs.length), .nilIface], by simp [results, Tryd.results38, go_sem], put_below HK4.out BW4.out (by have := S2.out; omega), .inl ⟨_, _, He.out, rfl⟩⟩
      · have He : Hid (takeN zs at_ = none) := by show _ = _; rw [Hg.out, if_neg heq]
        have hd : decide (putN (val gs) = gs) = false := by simp [heq]
        have hp4 : w4.cell? ⟨2, 0, none⟩ = some (.iface 99 (.pointer (some p))) := HP.out.below BW4.out
        rw [hd]
        clear hd heq
        go_wp2_with fail
        go_region
        all_goals go_wp2
        all_goals
          have HKd : Hid (w4.drew.heap[D]? = some (.deferred (some []))) := HK4.out
          refine ⟨by simp, .inl ⟨_, _, rfl, run_takeDeferred HKd.out, ?_⟩⟩
          exact ⟨.tuple #[.int .i64 0, .int .i64 0, .iface 99 (.pointer (some p))], by simp [results, Tryd.results38, go_sem], put_below HKd.out BW4.out.drew (by have := S2.out; omega), .inr ⟨He.out, rfl⟩⟩
    case stop =>
      rintro D cc W hD hc hK
      exact absurd hc (fun h => h)
end Go.Proofs.YtcgmeindiaaokaaDoor.By
