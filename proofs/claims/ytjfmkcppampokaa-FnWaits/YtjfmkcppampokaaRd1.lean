/- Redials, the reference's. -/
import Derived.Test.YtjfmkcppampokaaAdt
import Derived.Test.YtjfmkcppampokaaIntN
namespace Go.Proofs.Ytjfmkcppampokaa.Wt
open Go.RowKit Go.Deep Base Flt Cf Tick Rw

/-- The times of the first k redials behind the first, the last first. -/
def redT (c : Nat → Int) (ds : List Int) : Nat → Int
  | 0 => 0
  | k + 1 => addT (redT c ds k) (jw c ((k : Int) + 1) (ds.getD k 0))
/-- The first k + 1 times. -/
def redL (c : Nat → Int) (ds : List Int) (k : Nat) : List Int := (List.range (k + 1)).map (redT c ds)
/-- Redials' answer. -/
def red (c : Nat → Int) (ds : List Int) : List Int := if okC c = true ∧ ds.length ≤ 300 then redL c ds ds.length else []

theorem redL_zero (c : Nat → Int) (ds : List Int) : redL c ds 0 = [0] := rfl
theorem redL_succ (c : Nat → Int) (ds : List Int) (k : Nat) : redL c ds (k + 1) = redL c ds k ++ [redT c ds (k + 1)] := by
  unfold redL
  rw [List.range_succ, List.map_append]
  rfl
theorem redL_len (c : Nat → Int) (ds : List Int) (k : Nat) : (redL c ds k).length = k + 1 := by simp [redL]
theorem redL_at (c : Nat → Int) (ds : List Int) (k : Nat) : (redL c ds k).getD k 0 = redT c ds k := by simp [redL]
theorem red_yes {c : Nat → Int} {ds : List Int} (h : okC c = true) (hl : ds.length ≤ 300) : red c ds = redL c ds ds.length := if_pos ⟨h, hl⟩
theorem red_bad {c : Nat → Int} {ds : List Int} (h : okC c = false) : red c ds = [] := if_neg (by simp [h])
theorem red_long {c : Nat → Int} {ds : List Int} (h : 300 < ds.length) : red c ds = [] := if_neg (by omega)
theorem red_few (c : Nat → Int) (ds : List Int) : (red c ds).length ≤ 301 := by
  unfold red
  split
  · rw [redL_len]; omega
  · simp

set_option maxRecDepth 100000 in
set_option maxHeartbeats 2000000 in
theorem specRed_any (c : Nat → Int) (A : Option Addr) (n cap : Nat) (ds : List Int) (w : World) (hn : ds.length = n) (hm : n ≤ 1048576) (h : Ints w A ds) :
    Calls Try.prog 27 #[.agg #[.int .i64 (c 0), .int .i64 (c 1), .int .i64 (c 2), .int .i64 (c 3), .int .i64 (c 4), .int .i64 (c 5), .int .i64 (c 6), .int .i64 (c 7), .int .i64 (c 8), .int .i64 (c 9), .int .i64 (c 10), .int .i64 (c 11), .int .i64 (c 12), .int .i64 (c 13)], .slice A n cap] w (NewI w (red c ds)) := by
  have Hn := Lib.hid hn
  have HS := Lib.hid h
  clear h hn
  go_enter Try.func27, Try.ntmps27
  go_wp2_with fail
  obtain ⟨W0, hW0⟩ : ∃ W0, w.alloc (.cells #[.int .i64 (c 0), .int .i64 (c 1), .int .i64 (c 2), .int .i64 (c 3), .int .i64 (c 4), .int .i64 (c 5), .int .i64 (c 6), .int .i64 (c 7), .int .i64 (c 8), .int .i64 (c 9), .int .i64 (c 10), .int .i64 (c 11), .int .i64 (c 12), .int .i64 (c 13)] 25) = W0 := ⟨_, rfl⟩
  have B : Hid (Below w.heap.size w W0) := by rw [← hW0]; exact bel_alloc _ _
  have z0 : w.heap.size < W0.heap.size := by rw [← hW0]; simp
  have K : Hid (W0.heap[w.heap.size]? = some (.cells #[.int .i64 (c 0), .int .i64 (c 1), .int .i64 (c 2), .int .i64 (c 3), .int .i64 (c 4), .int .i64 (c 5), .int .i64 (c 6), .int .i64 (c 7), .int .i64 (c 8), .int .i64 (c 9), .int .i64 (c 10), .int .i64 (c 11), .int .i64 (c 12), .int .i64 (c 13)] 25 (0, 0))) := by rw [← hW0]; exact heap_alloc_new w _
  rw [hW0]
  clear hW0
  refine (specConfigOk_any c _).mono ?_
  rintro e w1 ⟨rfl, b1⟩
  replace B := Lib.hid (bel_trans B.out b1)
  replace K := Lib.hid ((b1.block _ z0).trans K.out)
  have z1 : w.heap.size < w1.heap.size := Nat.lt_of_lt_of_le z0 b1.size
  clear b1 z0
  cases hok : okC c
  · have Hr := Lib.hid (red_bad (ds := ds) hok)
    clear hok
    go_wp2
    go_ret
    exact ⟨none, 0, by rw [Hr.out]; rfl, by rw [Hr.out]; exact IV.nil _ _ _ _, B.out⟩
  by_cases hl : 300 < n
  · have Hr := Lib.hid (red_long (c := c) (ds := ds) (by rw [Hn.out]; exact hl))
    clear hok
    go_wp2
    go_ret
    exact ⟨none, 0, by rw [Hr.out]; rfl, by rw [Hr.out]; exact IV.nil _ _ _ _, B.out⟩
  have Hr := Lib.hid (red_yes (ds := ds) hok (by rw [Hn.out]; omega))
  have Hok := Lib.hid hok
  clear hok
  have L1 := Lib.hid (ListSt.one (W := w1) 0)
  go_wp2
  go_loopw [5, 6, 7] (fun v x i wr => ∃ (u : Value) (k : Nat), u = v ∧ k ≤ n ∧ i = .int .i64 k ∧ x = .int .i64 (redT c ds k) ∧ ListSt w1.heap.size w1 wr u (redL c ds k)) (fun _ _ i _ => n - (intOf i).toNat)
  case atStart => exact ⟨_, 0, rfl, Nat.zero_le _, rfl, rfl, L1.out⟩
  case round =>
    obtain ⟨u, k, rfl, hk, rfl, rfl, hst⟩ := hrel
    have Hst := Lib.hid hst
    have HB := Lib.hid (bel_trans B.out hst.old)
    have HK := Lib.hid ((hst.old.block _ z1).trans K.out)
    have zr : w.heap.size < wr.heap.size := Nat.lt_of_lt_of_le z1 hst.old.size
    have z1r : w1.heap.size ≤ wr.heap.size := hst.old.size
    clear hst L1
    by_cases hlt : k < n
    · obtain ⟨g, off, rfl, hc⟩ := HS.out.below HB.out (by have := Hn.out; omega)
      have hck := hc k (by have := Hn.out; omega)
      clear hc
      have HJ := fun V => specJit_any c ((k : Int) + 1) (ds.getD k 0) V
      have Ht : Hid (redT c ds (k + 1) = addT (redT c ds k) (jw c ((k : Int) + 1) (ds.getD k 0))) := rfl
      generalize ds.getD k 0 = z at hck HJ Ht
      generalize jw c ((k : Int) + 1) z = j at HJ Ht
      generalize hT : redT c ds k = t at Ht ⊢
      have hT' := Lib.hid hT
      clear hT
      have HA := fun V => specAddTick_any t j V
      rw [← Ht.out] at HA
      clear Ht
      generalize hT : redT c ds (k + 1) = t1 at HA
      have hT1 := Lib.hid hT
      clear hT
      have x0 : wr.cell? ⟨w.heap.size, 0, none⟩ = some (.int .i64 (c 0)) := cell_of_row _ _ 0 _ _ (0, 0) HK.out
      have x1 : wr.cell? ⟨w.heap.size, 1, none⟩ = some (.int .i64 (c 1)) := cell_of_row _ _ 1 _ _ (0, 0) HK.out
      have x2 : wr.cell? ⟨w.heap.size, 2, none⟩ = some (.int .i64 (c 2)) := cell_of_row _ _ 2 _ _ (0, 0) HK.out
      have x3 : wr.cell? ⟨w.heap.size, 3, none⟩ = some (.int .i64 (c 3)) := cell_of_row _ _ 3 _ _ (0, 0) HK.out
      have x4 : wr.cell? ⟨w.heap.size, 4, none⟩ = some (.int .i64 (c 4)) := cell_of_row _ _ 4 _ _ (0, 0) HK.out
      have x5 : wr.cell? ⟨w.heap.size, 5, none⟩ = some (.int .i64 (c 5)) := cell_of_row _ _ 5 _ _ (0, 0) HK.out
      have x6 : wr.cell? ⟨w.heap.size, 6, none⟩ = some (.int .i64 (c 6)) := cell_of_row _ _ 6 _ _ (0, 0) HK.out
      have x7 : wr.cell? ⟨w.heap.size, 7, none⟩ = some (.int .i64 (c 7)) := cell_of_row _ _ 7 _ _ (0, 0) HK.out
      have x8 : wr.cell? ⟨w.heap.size, 8, none⟩ = some (.int .i64 (c 8)) := cell_of_row _ _ 8 _ _ (0, 0) HK.out
      have x9 : wr.cell? ⟨w.heap.size, 9, none⟩ = some (.int .i64 (c 9)) := cell_of_row _ _ 9 _ _ (0, 0) HK.out
      have x10 : wr.cell? ⟨w.heap.size, 10, none⟩ = some (.int .i64 (c 10)) := cell_of_row _ _ 10 _ _ (0, 0) HK.out
      have x11 : wr.cell? ⟨w.heap.size, 11, none⟩ = some (.int .i64 (c 11)) := cell_of_row _ _ 11 _ _ (0, 0) HK.out
      have x12 : wr.cell? ⟨w.heap.size, 12, none⟩ = some (.int .i64 (c 12)) := cell_of_row _ _ 12 _ _ (0, 0) HK.out
      have x13 : wr.cell? ⟨w.heap.size, 13, none⟩ = some (.int .i64 (c 13)) := cell_of_row _ _ 13 _ _ (0, 0) HK.out
      have hw1 : IntKind.i64.wrap ((k : Int) + 1) = (k : Int) + 1 := IntWalk.i64_in _ (by omega)
      go_wp2_with fail
      go_region_with (first
        | (go_at_call 23; refine (HJ _).mono ?_; rintro e w2 ⟨rfl, b2⟩; have H2 := Lib.hid (bel_of_drew b2); clear b2)
        | (go_at_call 47; refine (HA _).mono ?_; rintro e w3 ⟨rfl, rfl⟩))
      all_goals
        have HL := Lib.hid (Hst.out.keep z1r H2.out)
        have z2 : w1.heap.size ≤ w2.heap.size := Nat.le_trans z1r H2.out.size
        obtain ⟨i0, hi0, hz0, hz1, hz2⟩ := info_parts infoInt
        have Hi0 := Lib.hid hi0
        have Hz0 := Lib.hid hz0
        have Hz1 := Lib.hid hz1
        have Hz2 := Lib.hid hz2
        clear hi0 hz0 hz1 hz2 hw1 x0 x1 x2 x3 x4 x5 x6 x7 x8 x9 x10 x11 x12 x13 hck
        go_wp2_with (at_builtin; refine wpList_append_own _ rfl _ _ 26 rfl w1.heap.size 3 i0 (.int .i64 0) 1 8 Try.underlying26 Hi0.out Hz0.out Hz1.out Hz2.out rfl (by decide) _ _ _ rfl (HL.out.own.alloc _) ⟨w2.heap.size, 0, none⟩ 1 1 [.int .i64 t1] rfl rfl ?c1h ?c2h ?c3h ?c4h ?c5h ?_)
        case c1h => exact new_one_at rfl _ _
        case c2h => simp [Value.oneCell']
        case c3h => rw [redL_len]; unfold maxLen; omega
        case c4h => rw [redL_len]; omega
        case c5h => simp; omega
        · intro v' w4 hown hg _
          have hst1 := HL.out.step rfl hown hg
          have HQ : Hid (ListSt w1.heap.size w1 w4 v' (redL c ds (k + 1))) := by
            show ListSt _ _ _ _ _
            rw [redL_succ, hT1.out]; exact hst1
          clear hst1 hown hg
          go_wp2
          go_roundw
          case rel => exact ⟨_, k + 1, rfl, by omega, by go_num, by rw [hT1.out], HQ.out⟩
          case measure => simp [intOf]; omega
    · obtain rfl : k = n := by omega
      obtain ⟨A', cap', rfl⟩ := owns_form Hst.out.own
      go_wp2
      go_ret
      refine ⟨A', cap', by rw [Hr.out, Hn.out]; rfl, ?_, HB.out⟩
      rw [Hr.out, Hn.out]
      exact (iv_owns Hst.out.own).wide (by omega) (Nat.le_refl _)
end Go.Proofs.Ytjfmkcppampokaa.Wt
