/- PutNumber, of the program and of the reference: a new row with the number's groups. -/
import Derived.Test.YtcgmeindiaaokaaDoorByN
import Derived.Test.YtcgmeindiaaokaaDoorHtk
namespace Go.Proofs.YtcgmeindiaaokaaDoor.By
open Go.RowKit Go.Deep Base Rw

theorem tick_isT (x : Int) : tick x = Tick.isT x := rfl
theorem NewY.of {w wr : World} {v : Value} {zs : List Int} (h : BSt w.heap.size w wr v zs) : NewY w zs (.returned v) wr := by
  obtain ⟨A, cap, rfl⟩ := owns_form h.own
  exact h.newY

set_option maxHeartbeats 1000000 in
theorem implPut_any (x : Int) (w : World) : Calls Tryd.prog 51 #[.int .i64 x] w (NewY w (putN x)) := by
  cases ht : Tick.isT x
  · have e0 : putN x = [] := putN_no ht
    rw [e0]
    go_enter Tryd.func51, Tryd.ntmps51
    go_wp2_with fail
    refine (Tick.implTickOk_any x w).mono ?_
    rintro e w1 ⟨rfl, hb1⟩
    go_wp2
    go_ret
    exact ⟨none, 0, rfl, BV.nil _ _ _ _, hb1⟩
  · have hx := tick_room ht
    have e0 : putN x = putF 4 x := putN_yes ht
    rw [e0]
    obtain ⟨i0, hi0, hz0, hz1, hz2⟩ := info_parts infoY
    have Hi0 := Lib.hid hi0
    have Hz0 := Lib.hid hz0
    have Hz1 := Lib.hid hz1
    have Hz2 := Lib.hid hz2
    clear hi0 hz0 hz1 hz2
    have Hx := Lib.hid hx
    clear hx e0
    go_enter Tryd.func51, Tryd.ntmps51
    go_wp2_with fail
    refine (Tick.implTickOk_any x w).mono ?_
    rintro e w1 ⟨rfl, hb1⟩
    go_wp2
    go_loopw [0, 3] (fun x' v wr => ∃ (u : Value) (f : Nat) (gs : List Int) (y : Int), u = v ∧ x' = .int .i64 y ∧ 0 ≤ y ∧ y < room (f + 1) ∧ f ≤ 4 ∧ gs.length + f = 4 ∧ gs ++ putF f y = putF 4 x ∧ BSt w.heap.size w wr u gs) (fun x' _ _ => (intOf x').toNat)
    case atStart => exact ⟨_, 4, [], x, rfl, rfl, Hx.out.1, Hx.out.2, by omega, rfl, rfl, ⟨World.ownsRow_nil _ _ _ _, hb1⟩⟩
    case round =>
      obtain ⟨u, f, gs, y, rfl, rfl, y0, y1, hf, hl, hg, hst⟩ := hrel
      have Hst := Lib.hid hst
      have Hg := Lib.hid hg
      have Hl := Lib.hid hl
      have Hf := Lib.hid hf
      have hym : y ≤ 34359738368 := by
        have : room (f + 1) ≤ room 5 := by
          have : f = 0 ∨ f = 1 ∨ f = 2 ∨ f = 3 ∨ f = 4 := by omega
          rcases this with rfl | rfl | rfl | rfl | rfl <;> simp [room]
        have : room 5 = 34359738368 := rfl
        omega
      have H1 := Lib.hid y1
      have z1 : w.heap.size ≤ wr.heap.size := hst.old.size
      clear hst hg hl hf y1
      by_cases h : 128 ≤ y
      · have hw : IntKind.u8.wrap (y % 128 + 128) = y % 128 + 128 := by rw [wrap_u8]; omega
        go_wp2_with (at_builtin; refine wpList_append_own _ rfl _ _ 22 rfl w.heap.size 5 i0 (.int .u8 0) 1 1 Tryd.underlying22 Hi0.out Hz0.out Hz1.out Hz2.out rfl (by decide) _ _ _ rfl (Hst.out.own.alloc _) ⟨wr.heap.size, 0, none⟩ 1 1 [.int .u8 (y % 128 + 128)] rfl rfl ?c1h ?c2h ?c3h ?c4h ?c5h ?_)
        case c1h => exact new_one_at rfl _ _
        case c2h => simp [Value.oneCell']
        case c3h => have := Hl.out; unfold maxLen; omega
        case c4h => have := Hl.out; omega
        case c5h => first | omega | (simp; omega)
        · intro v' w4 hown hgr _
          have HQ := Lib.hid (Hst.out.step (Nat.le_refl _) hown hgr)
          clear hown hgr
          go_wp2
          go_roundw
          case rel =>
            obtain ⟨f', rfl⟩ : ∃ f', f = f' + 1 := by
              cases f with
              | zero => have := H1.out; simp [room] at this; omega
              | succ f' => exact ⟨f', rfl⟩
            have hd := div_room y0 H1.out
            refine ⟨_, f', _, y / 128, rfl, by go_num, hd.1, hd.2, by have := Hf.out; omega, ?_, ?_, HQ.out⟩
            · have := Hl.out; simp; omega
            · rw [← Hg.out]
              conv => rhs; rw [putF, if_neg (show ¬ y < 128 by omega)]
              simp
          case measure => simp only [intOf]; omega
      · have hw : IntKind.u8.wrap y = y := by rw [wrap_u8]; omega
        go_wp2_with (at_builtin; refine wpList_append_own _ rfl _ _ 22 rfl w.heap.size 5 i0 (.int .u8 0) 1 1 Tryd.underlying22 Hi0.out Hz0.out Hz1.out Hz2.out rfl (by decide) _ _ _ rfl (Hst.out.own.alloc _) ⟨wr.heap.size, 0, none⟩ 1 1 [.int .u8 y] rfl rfl ?c1h ?c2h ?c3h ?c4h ?c5h ?_)
        case c2h => simp [Value.oneCell']
        case c3h => have := Hl.out; unfold maxLen; omega
        case c4h => have := Hl.out; omega
        case c5h => first | omega | (simp; omega)
        · intro v' w4 hown hgr _
          have HQ := Lib.hid (Hst.out.step (Nat.le_refl _) hown hgr)
          clear hown hgr
          go_wp2
          go_ret
          have he : putF f y = [y] := by
            cases f with
            | zero => rfl
            | succ f' => rw [putF, if_pos (by omega)]
          rw [← Hg.out, he]
          exact NewY.of HQ.out

set_option maxHeartbeats 1000000 in
theorem specPut_any (x : Int) (w : World) : Calls Tryd.prog 47 #[.int .i64 x] w (NewY w (putN x)) := by
  cases ht : Tick.isT x
  · have e0 : putN x = [] := putN_no ht
    rw [e0]
    go_enter Tryd.func47, Tryd.ntmps47
    go_wp2_with fail
    refine (Tick.specTickOk_any x _).mono ?_
    rintro e w1 ⟨rfl, rfl⟩
    go_wp2
    go_ret
    exact ⟨none, 0, rfl, BV.nil _ _ _ _, bel_alloc _ _⟩
  · have hx := tick_room ht
    have e0 : putN x = putF 4 x := putN_yes ht
    rw [e0]
    obtain ⟨i0, hi0, hz0, hz1, hz2⟩ := info_parts infoY
    have Hi0 := Lib.hid hi0
    have Hz0 := Lib.hid hz0
    have Hz1 := Lib.hid hz1
    have Hz2 := Lib.hid hz2
    clear hi0 hz0 hz1 hz2
    have Hx := Lib.hid hx
    clear hx e0
    go_enter Tryd.func47, Tryd.ntmps47
    go_wp2_with fail
    refine (Tick.specTickOk_any x _).mono ?_
    rintro e w1 ⟨rfl, rfl⟩
    go_wp2
    go_loopw [0, 3] (fun x' v wr => ∃ (u : Value) (f : Nat) (gs : List Int) (y : Int), u = v ∧ x' = .int .i64 y ∧ 0 ≤ y ∧ y < room (f + 1) ∧ f ≤ 4 ∧ gs.length + f = 4 ∧ gs ++ putF f y = putF 4 x ∧ BSt w.heap.size w wr u gs) (fun x' _ _ => (intOf x').toNat)
    case atStart => exact ⟨_, 4, [], x, rfl, rfl, Hx.out.1, Hx.out.2, by omega, rfl, rfl, BSt.empty w (Nat.le_refl _)⟩
    case round =>
      obtain ⟨u, f, gs, y, rfl, rfl, y0, y1, hf, hl, hg, hst⟩ := hrel
      have Hst := Lib.hid hst
      have Hg := Lib.hid hg
      have Hl := Lib.hid hl
      have Hf := Lib.hid hf
      have hym : y ≤ 34359738368 := by
        have : room (f + 1) ≤ room 5 := by
          have : f = 0 ∨ f = 1 ∨ f = 2 ∨ f = 3 ∨ f = 4 := by omega
          rcases this with rfl | rfl | rfl | rfl | rfl <;> simp [room]
        have : room 5 = 34359738368 := rfl
        omega
      have H1 := Lib.hid y1
      have z1 : w.heap.size ≤ wr.heap.size := hst.old.size
      clear hst hg hl hf y1
      by_cases h : 128 ≤ y
      · have hw : IntKind.u8.wrap (128 + y % 128) = y % 128 + 128 := by rw [wrap_u8]; omega
        go_wp2_with (at_builtin; refine wpList_append_own _ rfl _ _ 22 rfl w.heap.size 5 i0 (.int .u8 0) 1 1 Tryd.underlying22 Hi0.out Hz0.out Hz1.out Hz2.out rfl (by decide) _ _ _ rfl (Hst.out.own.alloc _) ⟨wr.heap.size, 0, none⟩ 1 1 [.int .u8 (y % 128 + 128)] rfl rfl ?c1h ?c2h ?c3h ?c4h ?c5h ?_)
        case c1h => exact new_one_at rfl _ _
        case c2h => simp [Value.oneCell']
        case c3h => have := Hl.out; unfold maxLen; omega
        case c4h => have := Hl.out; omega
        case c5h => first | omega | (simp; omega)
        · intro v' w4 hown hgr _
          have HQ := Lib.hid (Hst.out.step (Nat.le_refl _) hown hgr)
          clear hown hgr
          go_wp2
          go_roundw
          case rel =>
            obtain ⟨f', rfl⟩ : ∃ f', f = f' + 1 := by
              cases f with
              | zero => have := H1.out; simp [room] at this; omega
              | succ f' => exact ⟨f', rfl⟩
            have hd := div_room y0 H1.out
            refine ⟨_, f', _, y / 128, rfl, by go_num, hd.1, hd.2, by have := Hf.out; omega, ?_, ?_, HQ.out⟩
            · have := Hl.out; simp; omega
            · rw [← Hg.out]
              conv => rhs; rw [putF, if_neg (show ¬ y < 128 by omega)]
              simp
          case measure => simp only [intOf]; omega
      · have hw : IntKind.u8.wrap y = y := by rw [wrap_u8]; omega
        go_wp2_with (at_builtin; refine wpList_append_own _ rfl _ _ 22 rfl w.heap.size 5 i0 (.int .u8 0) 1 1 Tryd.underlying22 Hi0.out Hz0.out Hz1.out Hz2.out rfl (by decide) _ _ _ rfl (Hst.out.own.alloc _) ⟨wr.heap.size, 0, none⟩ 1 1 [.int .u8 y] rfl rfl ?c1h ?c2h ?c3h ?c4h ?c5h ?_)
        case c2h => simp [Value.oneCell']
        case c3h => have := Hl.out; unfold maxLen; omega
        case c4h => have := Hl.out; omega
        case c5h => first | omega | (simp; omega)
        · intro v' w4 hown hgr _
          have HQ := Lib.hid (Hst.out.step (Nat.le_refl _) hown hgr)
          clear hown hgr
          go_wp2
          go_ret
          have he : putF f y = [y] := by
            cases f with
            | zero => rfl
            | succ f' => rw [putF, if_pos (by omega)]
          rw [← Hg.out, he]
          exact NewY.of HQ.out
end Go.Proofs.YtcgmeindiaaokaaDoor.By
