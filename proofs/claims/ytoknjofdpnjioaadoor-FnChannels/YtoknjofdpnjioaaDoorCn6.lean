/- PlayChannel: the program's and the reference's. -/
import Derived.Test.YtoknjofdpnjioaaDoorCn5
namespace Go.Proofs.YtoknjofdpnjioaaDoor.Cn
open Go.RowKit Go.Deep Base Rw

def playS (es : List Int) : Int := if 300 < es.length then 0 else stAt es es.length
def playR (es : List Int) : List Int := if 300 < es.length then [] else playL es es.length
theorem playR_few (es : List Int) : (playR es).length ≤ 300 := by
  unfold playR
  split
  · simp
  · rw [play_len]; omega

/-- A state and a new row of states come back. -/
def PlayEnd (es : List Int) (w : World) (e : Ending) (w' : World) : Prop := ∃ A cap, e = .returned (.tuple #[.int .i64 (playS es), .slice A (playR es).length cap]) ∧ IVo w' w.heap.size w'.heap.size A (playR es) ∧ Below w.heap.size w w'

set_option maxRecDepth 100000 in
set_option maxHeartbeats 1600000 in
theorem implPlay_any (A : Option Addr) (n cap : Nat) (es : List Int) (w : World) (hmv : Mvs w) (hn : es.length = n) (h : Ints w A es) :
    Calls Tryd.prog 13 #[.slice A n cap] w (PlayEnd es w) := by
  have HM := Lib.hid hmv
  have Hn := Lib.hid hn
  have HS := Lib.hid h
  have hlt : 1 < w.heap.size := World.block_lt_of_cell? _ _ (hmv 0 (by omega))
  clear hmv h hn
  go_enter Tryd.func13, Tryd.ntmps13
  by_cases hl : 300 < n
  · have e1 : Hid (playS es = 0 ∧ playR es = []) := Lib.hid (by unfold playS playR; rw [Hn.out, if_pos hl, if_pos hl]; exact ⟨rfl, rfl⟩)
    go_wp2
    refine bodyPost_ret (results_tmp2 rfl _ _ _) rfl ?_
    exact ⟨none, 0, by rw [e1.out.1, e1.out.2]; rfl, by rw [e1.out.2]; exact IVo.nil _ _ _ _, Below.refl _ _⟩
  have E1 : Hid (playS es = stAt es n ∧ playR es = playL es n) := Lib.hid (by unfold playS playR; rw [Hn.out, if_neg hl, if_neg hl]; exact ⟨rfl, rfl⟩)
  have H0 := Lib.hid (cht_new w 57)
  go_wp2_with fail
  obtain ⟨W0, hW0⟩ : ∃ W0, w.alloc (.cells #[.int .u32 0, .int .i32 0, .int .u32 0, .int .i64 0, .int .i64 0, .int .i64 0, .int .i64 0, .int .i64 0, .int .i64 0, .int .i64 0, .int .i64 0, .int .i64 0, .int .i64 0, .int .i64 0, .int .i64 0, .int .i64 0, .int .i64 0, .int .i64 0, .int .i64 0, .int .i64 0, .int .i64 0, .int .i64 0, .int .i64 0, .int .i64 0, .int .i64 0, .int .i64 0, .int .i64 0, .int .i64 0, .int .i64 0, .int .i64 0, .int .i64 0, .int .i64 0, .int .i64 0, .int .i64 0, .int .i64 0, .int .i64 0, .int .i64 0, .int .i64 0] 57) = W0 := ⟨_, rfl⟩
  rw [hW0] at H0 ⊢
  have B : Hid (Below w.heap.size w W0) := by rw [← hW0]; exact bel_alloc _ _
  clear hW0
  have z0 : w.heap.size ≤ W0.heap.size := B.out.size
  refine (history_any w.heap.size A n cap es W0 H0.out (HM.out.below B.out) (by omega) Hn.out (by omega) (fun W ht => HS.out.below (B.out.trans (ht.below (Nat.le_refl _) z0)))).mono ?_
  rintro e w1 ⟨A1, c1, rfl, hc1, v1, t1⟩
  have z1 : W0.heap.size ≤ w1.heap.size := t1.size
  replace B := Lib.hid (B.out.trans (t1.below (Nat.le_refl _) z0))
  clear t1 H0
  obtain ⟨g, rfl, g1, g2, hri⟩ := v1 (by rw [hist_len]; omega)
  have hek := (hri n (by rw [hist_len]; omega)).1
  rw [hist_at es (Nat.le_refl n)] at hek
  have HV : Hid (IVo w1 w.heap.size w1.heap.size (some ⟨g, 1, none⟩) (playL es n)) := Lib.hid (fun _ => ⟨g, 1, rfl, by omega, g2, fun i hi => by
    rw [play_len] at hi
    have := hri (1 + i) (by rw [hist_len]; omega)
    rw [hist_at es (by omega)] at this
    rw [play_at es hi, Nat.add_comm i 1]
    exact this⟩)
  clear hri
  generalize hS : stAt es n = sn at hek E1
  clear hS
  go_wp2_with fail
  go_region
  go_wp2
  · obtain rfl : n = 0 := by omega
    refine bodyPost_ret (results_tmp2 rfl _ _ _) rfl ?_
    exact ⟨_, _, by rw [E1.out.1, E1.out.2, play_len]; rfl, by rw [E1.out.2]; exact IVo.nil _ _ _ _, Below.drew B.out⟩
  · refine bodyPost_ret (results_tmp2 rfl _ _ _) rfl ?_
    exact ⟨_, _, by rw [E1.out.1, E1.out.2, play_len]; rfl, by rw [E1.out.2]; exact HV.out.of_block (fun _ _ _ => rfl), Below.drew B.out⟩

set_option maxRecDepth 100000 in
set_option maxHeartbeats 1600000 in
theorem specPlay_any (A : Option Addr) (n cap : Nat) (es : List Int) (w : World) (hn : es.length = n) (h : Ints w A es) :
    Calls Tryd.prog 12 #[.slice A n cap] w (PlayEnd es w) := by
  have Hn := Lib.hid hn
  have HS := Lib.hid h
  clear h hn
  go_enter Tryd.func12, Tryd.ntmps12
  by_cases hl : 300 < n
  · have e1 : Hid (playS es = 0 ∧ playR es = []) := Lib.hid (by unfold playS playR; rw [Hn.out, if_pos hl, if_pos hl]; exact ⟨rfl, rfl⟩)
    go_wp2
    refine bodyPost_ret (results_tmp2 rfl _ _ _) rfl ?_
    exact ⟨none, 0, by rw [e1.out.1, e1.out.2]; rfl, by rw [e1.out.2]; exact IVo.nil _ _ _ _, Below.refl _ _⟩
  have E1 : Hid (playS es = stAt es n ∧ playR es = playL es n) := Lib.hid (by unfold playS playR; rw [Hn.out, if_neg hl, if_neg hl]; exact ⟨rfl, rfl⟩)
  have L1 : Hid (ListSt w.heap.size w (w.alloc (.cells #[] 3)) (.slice (some ⟨w.heap.size, 0, none⟩) 0 0) (playL es 0)) := Lib.hid (ListSt.empty w)
  go_wp2
  go_loopw [4, 5, 6] (fun s v i wr => ∃ (u x : Value) (k : Nat), u = v ∧ x = s ∧ k ≤ n ∧ x = .int .i64 (stAt es k) ∧ i = .int .i64 k ∧ ListSt w.heap.size w wr u (playL es k)) (fun _ _ i _ => n - (intOf i).toNat)
  case atStart => exact ⟨_, _, 0, rfl, rfl, Nat.zero_le _, rfl, rfl, L1.out⟩
  case round =>
    obtain ⟨u, x, k, rfl, rfl, hk, rfl, rfl, hst⟩ := hrel
    have z1 : w.heap.size ≤ wr.heap.size := hst.old.size
    have Hst := Lib.hid hst
    clear hst L1
    by_cases hlt : k < n
    · obtain ⟨g, off, rfl, hc⟩ := HS.out.below Hst.out.old (by have := Hn.out; omega)
      have hck := hc k (by have := Hn.out; omega)
      clear hc
      have Hs := Lib.hid (play_succ es k)
      have Hs2 : Hid (stAt es (k + 1) = go (stAt es k) (es.getD k 0)) := Lib.hid rfl
      generalize es.getD k 0 = z at hck Hs Hs2
      generalize stAt es k = s at Hs Hs2
      have HSt := Lib.hid (fun w => specStep_any s z w)
      generalize go s z = s' at Hs HSt Hs2
      obtain ⟨A', cap', rfl⟩ := owns_form Hst.out.own
      rw [play_len] at Hst ⊢
      generalize hHL : playL es k = hl at Hst Hs
      have hll : hl.length = k := by rw [← hHL, play_len]
      have Hll := Lib.hid hll
      clear hHL hll
      obtain ⟨i0, hi0, hz0, hz1, hz2⟩ := info_parts infoInt
      have Hi0 := Lib.hid hi0
      have Hz0 := Lib.hid hz0
      have Hz1 := Lib.hid hz1
      have Hz2 := Lib.hid hz2
      clear hi0 hz0 hz1 hz2
      go_wp2_with fail
      refine (HSt.out _).mono ?_
      rintro e w2 ⟨rfl, b2⟩
      replace Hst := Lib.hid (Hst.out.keep z1 b2)
      have z2 : wr.heap.size ≤ w2.heap.size := b2.size
      clear b2 hck
      go_wp2_with (at_builtin; refine wpList_append_own _ rfl _ _ 24 rfl w.heap.size 3 i0 (.int .i64 0) 1 8 Tryd.underlying24 Hi0.out Hz0.out Hz1.out Hz2.out rfl (by decide) _ _ _ rfl (Hst.out.own.alloc _) ⟨w2.heap.size, 0, none⟩ 1 1 [.int .i64 s'] rfl rfl ?c1h ?c2h ?c3h ?c4h ?c5h ?_)
      case c1h => exact new_one_at rfl _ _
      case c2h => simp [Value.oneCell']
      case c3h => rw [Hll.out]; unfold maxLen; omega
      case c4h => rw [Hll.out]; omega
      case c5h => simp; omega
      · intro v' w4 hown hg _
        have hst1 := Hst.out.step rfl hown hg
        rw [← Hs.out] at hst1
        have HQ := Lib.hid hst1
        clear hst1 hown hg
        go_wp2
        go_roundw
        case rel => exact ⟨_, _, k + 1, rfl, rfl, by omega, by rw [Hs2.out], by go_num, HQ.out⟩
        case measure => simp [intOf]; omega
    · obtain rfl : k = n := by omega
      obtain ⟨A', cap', rfl⟩ := owns_form Hst.out.own
      rw [play_len] at Hst ⊢
      go_wp2
      refine bodyPost_ret (results_tmp2 rfl _ _ _) rfl ?_
      exact ⟨A', cap', by rw [E1.out.1, E1.out.2, play_len]; rfl, by rw [E1.out.2]; exact (iv_owns (by have := Hst.out.own; rwa [play_len] at this)).toO, Hst.out.old⟩
end Go.Proofs.YtoknjofdpnjioaaDoor.Cn
