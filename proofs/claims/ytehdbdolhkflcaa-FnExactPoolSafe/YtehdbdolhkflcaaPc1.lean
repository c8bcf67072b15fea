/- CountState, the program's and the reference's. -/
import Derived.Test.YtehdbdolhkflcaaPq0
import Derived.Test.YtehdbdolhkflcaaPm1
namespace Go.Proofs.Ytehdbdolhkflcaa.Po
open Go.RowKit Go.Deep Base Ln

theorem cnt_num {cs : List Cn} {s : Int} {k : Nat} (h : k < cs.length) {x : Cn} (hx : cs.getD k zCn = x) : (cnt (cs.take (k + 1)) s : Int) = cnt (cs.take k) s + (if x.1 1 = s then 1 else 0) := by
  rw [cnt_take_succ cs s k h, hx]
  split <;> simp

set_option maxRecDepth 100000 in
set_option maxHeartbeats 2000000 in
theorem implCount_any (a : PA) (p : Pl) (s : Int) (R : RP) (w : World) (hn : p.cs.length ≤ 1048576) (h : CnV w R.c R.c' a.C p.cs) (hR : R.c' ≤ w.heap.size) :
    Calls Try.prog 17 #[.agg #[.int .i64 (p.c 0), .int .i64 (p.c 1), .int .i64 (p.c 2), .int .i64 (p.c 3), .int .i64 (p.c 4), .int .i64 (p.c 5), .int .i64 (p.c 6), .int .i64 (p.c 7), .int .i64 (p.c 8), .int .i64 (p.c 9), .int .i64 (p.c 10), .int .i64 (p.c 11), .int .i64 (p.c 12), .int .i64 (p.c 13), .int .i64 p.now, .int .i64 p.mode, .int .i64 p.nc, .int .i64 p.nt, .slice a.C p.cs.length a.cc, .slice a.A p.x.s.ss.length a.ca, .int .i64 p.x.s.f, .int .i64 p.x.s.l, .int .i64 p.x.s.r, .int .i64 p.x.s.c, .slice a.B p.x.ds.length a.cb, .int .i64 p.x.q, .int .i64 p.b.state, .slice a.F p.b.fails.length a.fc, .int .i64 p.b.till, .int .i64 p.fails, .int .i64 p.redial, .int .i64 p.drain], .int .i64 s] w fun e w' => e = .returned (.int .i64 (cnt p.cs s)) ∧ Below w.heap.size w w' := by
  have H := Lib.hid h
  clear h
  go_enter Try.func17, Try.ntmps17
  go_wp2
  go_loopw [11, 5] (fun i t wr => ∃ k : Nat, k ≤ p.cs.length ∧ i = .int .i64 k ∧ t = .int .i64 (cnt (p.cs.take k) s) ∧ Below w.heap.size w wr) (fun i _ _ => p.cs.length - (intOf i).toNat)
  case atStart => exact ⟨0, Nat.zero_le _, rfl, rfl, bel_alloc _ _⟩
  case round =>
    obtain ⟨k, hk, rfl, rfl, hr⟩ := hrel
    by_cases hlt : k < p.cs.length
    · obtain ⟨g, hg, _, _, hc⟩ := (H.out.below hr hR) (by omega)
      obtain ⟨c0, c1, c2, c3, c4, c5⟩ := (hc k hlt).1.six
      clear hc
      obtain ⟨x, hx⟩ : ∃ x, p.cs.getD k zCn = x := ⟨_, rfl⟩
      rw [hx] at c0 c1 c2 c3 c4 c5
      have Hx := Lib.hid hx
      have Hq := Lib.hid (cnt_num hlt hx (s := s))
      clear hx
      obtain ⟨x, xt⟩ := x
      dsimp only at c0 c1 c2 c3 c4 c5
      have hcl : cnt (p.cs.take k) s ≤ 1048576 := Nat.le_trans (cnt_le (p.cs.take k) s) (by rw [List.length_take]; omega)
      generalize (cnt (p.cs.take k) s) = m at Hq hcl ⊢
      rw [hg]
      by_cases hs : x 1 = s
      · have Hq' := Hq.out
        rw [if_pos hs] at Hq'
        go_wp2
        go_roundw
        case rel => exact ⟨k + 1, by omega, by go_num, by rw [Hq'], bel_trans hr (bel_alloc wr _)⟩
        case measure => simp [intOf]; omega
      · have Hq' := Hq.out
        rw [if_neg hs] at Hq'
        go_wp2
        go_roundw
        case rel => exact ⟨k + 1, by omega, by go_num, by rw [Hq', Int.add_zero], bel_trans hr (bel_alloc wr _)⟩
        case measure => simp [intOf]; omega
    · obtain rfl : k = p.cs.length := by omega
      go_wp2
      go_ret
      exact ⟨ret_int (by rw [List.take_length]), hr⟩

set_option maxRecDepth 100000 in
set_option maxHeartbeats 2000000 in
theorem specCount_any (a : PA) (p : Pl) (s : Int) (R : RP) (w : World) (hn : p.cs.length ≤ 1048576) (h : CnV w R.c R.c' a.C p.cs) (hR : R.c' ≤ w.heap.size) :
    Calls Try.prog 15 #[.agg #[.int .i64 (p.c 0), .int .i64 (p.c 1), .int .i64 (p.c 2), .int .i64 (p.c 3), .int .i64 (p.c 4), .int .i64 (p.c 5), .int .i64 (p.c 6), .int .i64 (p.c 7), .int .i64 (p.c 8), .int .i64 (p.c 9), .int .i64 (p.c 10), .int .i64 (p.c 11), .int .i64 (p.c 12), .int .i64 (p.c 13), .int .i64 p.now, .int .i64 p.mode, .int .i64 p.nc, .int .i64 p.nt, .slice a.C p.cs.length a.cc, .slice a.A p.x.s.ss.length a.ca, .int .i64 p.x.s.f, .int .i64 p.x.s.l, .int .i64 p.x.s.r, .int .i64 p.x.s.c, .slice a.B p.x.ds.length a.cb, .int .i64 p.x.q, .int .i64 p.b.state, .slice a.F p.b.fails.length a.fc, .int .i64 p.b.till, .int .i64 p.fails, .int .i64 p.redial, .int .i64 p.drain], .int .i64 s] w fun e w' => e = .returned (.int .i64 (cnt p.cs s)) ∧ Below w.heap.size w w' := by
  have H := Lib.hid h
  clear h
  go_enter Try.func15, Try.ntmps15
  go_wp2
  go_loopw [6, 5] (fun i t wr => ∃ k : Nat, k ≤ p.cs.length ∧ i = .int .i64 k ∧ t = .int .i64 (cnt (p.cs.take k) s) ∧ Bx wr w.heap.size 38 #[.int .i64 (p.c 0), .int .i64 (p.c 1), .int .i64 (p.c 2), .int .i64 (p.c 3), .int .i64 (p.c 4), .int .i64 (p.c 5), .int .i64 (p.c 6), .int .i64 (p.c 7), .int .i64 (p.c 8), .int .i64 (p.c 9), .int .i64 (p.c 10), .int .i64 (p.c 11), .int .i64 (p.c 12), .int .i64 (p.c 13), .int .i64 p.now, .int .i64 p.mode, .int .i64 p.nc, .int .i64 p.nt, .slice a.C p.cs.length a.cc, .slice a.A p.x.s.ss.length a.ca, .int .i64 p.x.s.f, .int .i64 p.x.s.l, .int .i64 p.x.s.r, .int .i64 p.x.s.c, .slice a.B p.x.ds.length a.cb, .int .i64 p.x.q, .int .i64 p.b.state, .slice a.F p.b.fails.length a.fc, .int .i64 p.b.till, .int .i64 p.fails, .int .i64 p.redial, .int .i64 p.drain] ∧ Below w.heap.size w wr) (fun i _ _ => p.cs.length - (intOf i).toNat)
  case atStart => exact ⟨0, Nat.zero_le _, rfl, rfl, Bx.new _ _ _, bel_alloc _ _⟩
  case round =>
    obtain ⟨k, hk, rfl, rfl, hB, hr⟩ := hrel
    have b5 : wr.cell? ⟨w.heap.size, 18, none⟩ = some (.slice a.C p.cs.length a.cc) := hB.cell 18
    have HB := Lib.hid hB
    clear hB
    by_cases hlt : k < p.cs.length
    · obtain ⟨g, hg, _, _, hc⟩ := (H.out.below hr hR) (by omega)
      obtain ⟨c0, c1, c2, c3, c4, c5⟩ := (hc k hlt).1.six
      clear hc
      obtain ⟨x, hx⟩ : ∃ x, p.cs.getD k zCn = x := ⟨_, rfl⟩
      rw [hx] at c0 c1 c2 c3 c4 c5
      have Hq := Lib.hid (cnt_num hlt hx (s := s))
      clear hx
      obtain ⟨x, xt⟩ := x
      dsimp only at c0 c1 c2 c3 c4 c5
      have hcl : cnt (p.cs.take k) s ≤ 1048576 := Nat.le_trans (cnt_le (p.cs.take k) s) (by rw [List.length_take]; omega)
      generalize (cnt (p.cs.take k) s) = m at Hq hcl ⊢
      rw [hg] at b5
      by_cases hs : x 1 = s
      · have Hq' := Hq.out
        rw [if_pos hs] at Hq'
        go_wp2
        go_roundw
        case rel => exact ⟨k + 1, by omega, by go_num, by rw [Hq'], HB.out, hr⟩
        case measure => simp [intOf]; omega
      · have Hq' := Hq.out
        rw [if_neg hs] at Hq'
        go_wp2
        go_roundw
        case rel => exact ⟨k + 1, by omega, by go_num, by rw [Hq', Int.add_zero], HB.out, hr⟩
        case measure => simp [intOf]; omega
    · obtain rfl : k = p.cs.length := by omega
      go_wp2
      go_ret
      exact ⟨ret_int (by rw [List.take_length]), hr⟩
end Go.Proofs.Ytehdbdolhkflcaa.Po
