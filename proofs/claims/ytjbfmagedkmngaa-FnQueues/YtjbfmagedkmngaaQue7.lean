/- What spec.NewQueue makes. -/
import Derived.Test.YtjbfmagedkmngaaQue6
namespace Go.Proofs.Ytjbfmagedkmngaa.Que
open Go.RowKit Go.Deep Base

def newAt (i : Nat) : Sl := ⟨0, -1, if i + 1 = 60 then -1 else (i : Int) + 1, false⟩
def newS : List Sl := (List.range 60).map newAt
theorem newS_len : newS.length = 60 := by simp [newS]
theorem newS_at {i : Nat} (h : i < 60) : newS.getD i zSl = newAt i := by simp [newS, h]
theorem newS_take {k : Nat} (h : k < 60) : newS.take (k + 1) = newS.take k ++ [newAt k] := by
  rw [List.take_succ_eq_append_getElem (by rw [newS_len]; exact h)]
  simp [newS]

structure NewSt (B : Nat) (w wr : World) (v : Value) (k : Nat) : Prop where
  box : Blk5 wr (B + 1) v (.int .i64 (-1)) (.int .i64 (-1)) (.int .i64 0) (.int .i64 0)
  own : wr.ownsRow (B + 1 + 1) 51 4 v k (cellsL (newS.take k))
  old : Below (B + 1) w wr

theorem NewSt.step {B : Nat} {w wr w1 : World} {v v' : Value} {k : Nat} {o : Obj} (h : NewSt B w wr v k) {xs : List Value} (hx : cellsL (newS.take (k + 1)) = xs) (hown : w1.ownsRow (B + 1 + 1) 51 4 v' (k + 1) xs) (hg : (wr.alloc o).grownBy w1 v.ownBlock) :
    NewSt B w (w1.setCell ⟨B + 1, 0, none⟩ v') v' (k + 1) := by
  have hlt := h.box.lt
  have hne : some (B + 1) ≠ v.ownBlock := fun e => by have := (h.own.lt _ e.symm).1; omega
  have hb1 : Blk5 w1 (B + 1) v (.int .i64 (-1)) (.int .i64 (-1)) (.int .i64 0) (.int .i64 0) := (h.box.alloc o).of_block (hg.block _ (by simp; omega) hne)
  refine ⟨hb1.set0 v', ?_, ?_⟩
  · rw [hx]
    refine hown.kept (Draw_grown_set _ _ _ _) (.inr fun e => ?_)
    have := (hown.lt _ e).1
    omega
  · exact ((h.old.alloc (by omega) o).grown hg (by simp; omega) (fun j e => by have := (h.own.lt j e).1; omega)).setCell (by simp) _

def LoopN (B : Nat) (w wr : World) (k : Nat) : Prop := ∃ v, NewSt B w wr v k

set_option maxHeartbeats 1000000 in
theorem specNew_any (w : World) : Calls Try.prog 30 #[] w (NewQ w 60 newS (-1) (-1) 0 0) := by
  go_enter Try.func30, Try.ntmps30
  go_wp2
  go_loopw [2] (fun i wr => ∃ k : Nat, k ≤ 60 ∧ i = .int .i64 k ∧ LoopN w.heap.size (w.alloc (.cells #[.slice none 0 0, .int .i64 0, .int .i64 0, .int .i64 0, .int .i64 0] 26)) wr k) (fun i _ => 60 - (intOf i).toNat)
  case atStart =>
    refine ⟨0, Nat.zero_le _, rfl, .slice none 0 0, ⟨?_, ?_, ?_⟩⟩
    · have h := heap_alloc_new (w.alloc (.cells #[.slice none 0 0, .int .i64 0, .int .i64 0, .int .i64 0, .int .i64 0] 26)) (.cells #[.slice none 0 0, .int .i64 (-1), .int .i64 (-1), .int .i64 0, .int .i64 0] 26)
      simp only [World.size_alloc] at h
      exact h
    · exact World.ownsRow_nil _ _ _ _
    · exact (Below.refl _ _).alloc (by simp) _
  case round =>
    obtain ⟨k, hk, rfl, v, hst⟩ := hrel
    have Hst := Lib.hid hst
    clear hst
    obtain ⟨x0, x1, x2, x3, x4, xf⟩ := Hst.out.box.cells
    by_cases hlt : k < 60
    · obtain ⟨i0, hi0, hz0, hz1, hz2⟩ := info_parts infoSlot
      have Hi0 := Lib.hid hi0
      have Hz0 := Lib.hid hz0
      have Hz1 := Lib.hid hz1
      have Hz2 := Lib.hid hz2
      clear hi0 hz0 hz1 hz2
      have hsz := Hst.out.box.lt
      obtain ⟨nx, hnx⟩ : ∃ nx, (newAt k).next = nx := ⟨_, rfl⟩
      have Hx : Hid (cellsL (newS.take (k + 1)) = cellsL (newS.take k) ++ [.int .i64 0, .int .i64 (-1), .int .i64 nx, .bool false]) := by
        show _ = _
        rw [newS_take hlt, cellsL_append, ← hnx]; rfl
      by_cases h60 : k + 1 = 60
      · have h1 : ((k : Int) + 1 == 60) = true := beq_iff_eq.2 (by omega)
        obtain rfl : -1 = nx := by rw [← hnx]; show _ = if k + 1 = 60 then _ else _; rw [if_pos h60]
        clear hnx h60
        go_wp2_with (at_builtin; refine wpList_append_own _ rfl _ _ 24 rfl (w.heap.size + 1 + 1) 51 i0 _ 4 32 Try.underlying24 Hi0.out Hz0.out Hz1.out Hz2.out rfl (by decide) _ _ _ rfl (Hst.out.own.alloc _) ⟨wr.heap.size, 0, none⟩ 1 1 [.int .i64 0, .int .i64 (-1), .int .i64 (-1), .bool false] rfl rfl ?c1h ?c2h ?c3h ?c4h ?c5h ?_)
        case c1h => exact new_four_at (w := wr) rfl _ _ _ _ _
        case c2h => simp [Value.oneCell']
        case c3h => unfold maxLen; omega
        case c4h => omega
        case c5h => simp; omega
        · intro v' w1 hown hg _
          have hne : some (w.heap.size + 1) ≠ v.ownBlock := fun e => by have := (Hst.out.own.lt _ e.symm).1; omega
          obtain ⟨y0, _, _, _, _, yf⟩ := ((Hst.out.box.alloc (.cells #[.int .i64 0, .int .i64 (-1), .int .i64 (-1), .bool false] 51)).of_block (hg.block _ (by simp; omega) hne)).cells
          have HQ := Lib.hid (Hst.out.step Hx.out hown hg)
          obtain ⟨A', cap', rfl⟩ := owns_form hown
          clear hown hg hne
          go_wp2
          go_roundw
          case rel => exact ⟨k + 1, by omega, by go_num, _, HQ.out⟩
          case measure => simp [intOf]; omega
      · have h1 : ((k : Int) + 1 == 60) = false := beq_eq_false_iff_ne.2 (by omega)
        obtain rfl : (k : Int) + 1 = nx := by rw [← hnx]; show _ = if k + 1 = 60 then _ else _; rw [if_neg h60]
        clear hnx h60
        go_wp2_with (at_builtin; refine wpList_append_own _ rfl _ _ 24 rfl (w.heap.size + 1 + 1) 51 i0 _ 4 32 Try.underlying24 Hi0.out Hz0.out Hz1.out Hz2.out rfl (by decide) _ _ _ rfl (Hst.out.own.alloc _) ⟨wr.heap.size, 0, none⟩ 1 1 [.int .i64 0, .int .i64 (-1), .int .i64 ((k : Int) + 1), .bool false] rfl rfl ?c1h2 ?c2h2 ?c3h2 ?c4h2 ?c5h2 ?_)
        case c1h2 => exact new_four_at (w := wr) rfl _ _ _ _ _
        case c2h2 => simp [Value.oneCell']
        case c3h2 => unfold maxLen; omega
        case c4h2 => omega
        case c5h2 => simp; omega
        · intro v' w1 hown hg _
          have hne : some (w.heap.size + 1) ≠ v.ownBlock := fun e => by have := (Hst.out.own.lt _ e.symm).1; omega
          obtain ⟨y0, _, _, _, _, yf⟩ := ((Hst.out.box.alloc (.cells #[.int .i64 0, .int .i64 (-1), .int .i64 ((k : Int) + 1), .bool false] 51)).of_block (hg.block _ (by simp; omega) hne)).cells
          have HQ := Lib.hid (Hst.out.step Hx.out hown hg)
          obtain ⟨A', cap', rfl⟩ := owns_form hown
          clear hown hg hne
          go_wp2
          go_roundw
          case rel => exact ⟨k + 1, by omega, by go_num, _, HQ.out⟩
          case measure => simp [intOf]; omega
    · obtain rfl : k = 60 := by omega
      obtain ⟨A', cap', rfl⟩ := owns_form Hst.out.own
      obtain ⟨z0, z1, z2, z3, z4, zf⟩ := (Blk5.of_block (w := w.alloc (.cells #[.slice none 0 0, .int .i64 0, .int .i64 0, .int .i64 0, .int .i64 0] 26)) (g := w.heap.size) (heap_alloc_new w _) (Hst.out.old.block w.heap.size (by omega))).cells
      go_wp2
      refine bodyPost_ret (v := .agg #[.slice A' 60 cap', .int .i64 (-1), .int .i64 (-1), .int .i64 0, .int .i64 0]) (by simp [results, Try.results30, go_sem, z0, z1, z2, z3, z4]) rfl ⟨A', cap', rfl, ?_, ?_⟩
      · have e : newS.take 60 = newS := List.take_of_length_le (by rw [newS_len]; omega)
        have ho := Hst.out.own
        rw [e] at ho
        refine SlV.wide (lo := w.heap.size + 1 + 1) (hi := wr.heap.size) ?_ (by omega) (by simp [World.setCell])
        iterate 5 refine SlV.setCell ?_ (by simp <;> omega) _
        exact slv_owns newS_len ho
      · iterate 5 refine Below.setCell ?_ (by simp <;> omega) _
        exact ((Below.refl _ _).alloc (Nat.le_refl _) _).trans (Hst.out.old.mono (by omega))
end Go.Proofs.Ytjbfmagedkmngaa.Que
