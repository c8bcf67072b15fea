/- l03DrawOps draws some list of operations. -/
import Derived.Test.YtnmhdbfemobhkaaHd1
namespace Go.Proofs.Ytnmhdbfemobhkaa.Hp
open Go.RowKit Go.Deep Base Draw

set_option maxRecDepth 100000 in
set_option maxHeartbeats 4000000 in
theorem drawOps_any (g : Nat) (A : Option Addr) (n cap : Nat) (zs : List Int) (m : Nat) (w : World) (hm : m ≤ 301) (hc : Cur w g A n cap zs) (hg : g < w.heap.size) :
    Calls Try.prog 49 #[.pointer (some ⟨g, 0, none⟩), .int .i64 m] w fun e w' => ∃ rs v, e = .returned v ∧ rs.length = m ∧ OpSt w w' g A n cap zs rs v := by
  have HC := Lib.hid hc
  clear hc
  obtain ⟨i0, hi0, hz0, hz1, hz2⟩ := info_parts infoInts
  have Hi0 := Lib.hid hi0
  have Hz0 := Lib.hid hz0
  have Hz1 := Lib.hid hz1
  have Hz2 := Lib.hid hz2
  clear hi0 hz0 hz1 hz2
  go_enter Try.func49, Try.ntmps49
  go_wp2_with fail
  go_loopw [5, 6, 7] (fun x nw i wr => ∃ (v : Value) (k : Nat) (t : Int) (rs : List Dr), v = x ∧ k ≤ m ∧ i = .int .i64 k ∧ nw = .int .i64 t ∧ 0 ≤ t ∧ t ≤ 8 * k ∧ rs.length = k ∧ OpSt w wr g A n cap zs rs v) (fun _ _ i _ => m - (intOf i).toNat)
  case atStart =>
    refine ⟨_, 0, 0, [], rfl, Nat.zero_le _, rfl, rfl, by omega, by omega, rfl, HC.out.alloc _, World.ownsRow_lit w #[] 0 (Nat.le_refl _) (by simp) (by simp), ⟨_, _, rfl⟩, (fun r hr => absurd hr (by simp)), grown_alloc _ _ _⟩
  case round =>
    obtain ⟨v, k, t, rs, hv, hk, rfl, rfl, ht0, ht1, hrl, st⟩ := hrel
    subst hv
    have St := Lib.hid st
    clear st
    have Hrl := Lib.hid hrl
    clear hrl
    by_cases hlt : k < m
    case neg =>
      have hk1 : ¬ (k : Int) < (m : Int) := by omega
      go_wp2
      go_ret
      exact ⟨rs, v, rfl, by have := Hrl.out; omega, St.out⟩
    have hk1 : (k : Int) < (m : Int) := by omega
    have hgw : g < wr.heap.size := by have := St.out.old.size; omega
    have HK : Hid (∀ W, wr.grownBy W (some g) → W.ownsRow w.heap.size 29 1 v rs.length (rs.map Dr.val)) := fun W h => St.out.own.kept h (.inr fun e => by have := (St.out.own.lt g e).1; omega)
    have hrk : rs.length ≤ 301 := by have := Hrl.out; omega
    go_wp2_with fail
    refine (pick_any g A n cap zs wr.heap.size 6 6 [0, 0, 0, 0, 1, 2] _ (St.out.cur.alloc _) (by omega) rfl (by decide) (by decide) (fun i hi => new_cells wr [0, 0, 0, 0, 1, 2] 3 i hi)).mono ?_
    rintro e w1 ⟨x1, rfl, _, hc1, hg1⟩
    have H1 := Lib.hid hc1
    have G1 := Lib.hid (grown_then (grown_alloc wr _ _) hg1)
    clear hc1 hg1
    go_wp2_with fail
    refine (below_any g A n cap zs 40 w1 H1.out).mono ?_
    rintro e w2 ⟨x2, rfl, hx2, hc2, hg2⟩
    obtain ⟨x20, x21⟩ := hx2.2 (by decide)
    have H2 := Lib.hid hc2
    have G2 := Lib.hid (grown_then G1.out hg2)
    clear hc2 hg2 hx2 H1 G1
    go_wp2_with fail
    refine (below_any g A n cap zs 30 w2 H2.out).mono ?_
    rintro e w3 ⟨x3, rfl, hx3, hc3, hg3⟩
    obtain ⟨x30, x31⟩ := hx3.2 (by decide)
    have H3 := Lib.hid hc3
    have G3 := Lib.hid (grown_then G2.out hg3)
    clear hc3 hg3 hx3 H2 G2
    have MD := Lib.hid (Mid.new H3.out G3.out x1 (1 + x2) (t + x3))
    clear H3 G3
    by_cases hx : x1 = 2
    · subst hx
      go_wp2_with fail
      refine (below_any g A n cap zs 8 _ MD.out.cur).mono ?_
      rintro e w4 ⟨x4, rfl, hx4, hc4, hg4⟩
      obtain ⟨x40, x41⟩ := hx4.2 (by decide)
      have M4 := Lib.hid (MD.out.draw hgw hc4 hg4)
      clear hc4 hg4 hx4 MD
      generalize w3.heap.size = b at M4 ⊢
      obtain ⟨c0, c1, c2, f1, f2⟩ := cell3 M4.out.op
      have M5 := Lib.hid (M4.out.store hgw 1 (.int .i64 (t + x4)) (y' := t + x4) rfl)
      clear M4
      go_wp2_with fail
      refine (once_any g A n cap zs 30 _ M5.out.cur).mono ?_
      rintro e w6 ⟨o6, rfl, hc6, hg6⟩
      have M6 := Lib.hid (M5.out.draw hgw hc6 hg6)
      clear hc6 hg6 M5 c0 c1 c2 f1 f2
      cases o6
      case false =>
        go_wp2_with (at_builtin; refine wpList_append_own_at _ rfl _ _ 24 rfl w.heap.size 29 i0 _ 1 24 Try.underlying24 Hi0.out Hz0.out Hz1.out Hz2.out rfl (by decide) v rs.length (rs.map Dr.val) rfl ?c0h ⟨w6.heap.size, 0, none⟩ 1 1 [Dr.val (⟨b, 3, [2, (t + x4), (t + x3)]⟩ : Dr)] rfl ?c6h ?c1h ?c2h ?c3h ?c4h ?c5h ?_)
        case c0h => exact (HK.out _ (M6.out).old).alloc _
        try case c6h => rfl
        try case c1h => exact new_one_at (w := w6) (by first | rfl | simp [World.setCell]) _ _
        try case c2h => first | (simp [Value.oneCell', Dr.val]; done) | (intro u hu; simp at hu; subst hu; rfl)
        try case c3h => first | (unfold maxLen; omega) | (simp [maxLen]; omega)
        try case c4h => first | omega | (simp; omega)
        try case c5h => (have := (M6.out).old.size; have := St.out.old.size; first | omega | (simp; omega) | (simp [World.setCell] at *; omega))
        intro v9 w9 hown hgr _ hat
        have HQ := Lib.hid (OpSt.push (r := (⟨b, 3, [2, (t + x4), (t + x3)]⟩ : Dr)) St.out hg M6.out rfl M6.out.ri.1 (fun h => by first | rfl | (exact absurd h (by simp))) (by simp) hown hgr hat (by first | omega | simp [World.setCell]))
        clear hown hgr hat
        go_wp2
        go_roundw
        case rel => exact ⟨v9, k + 1, ((t + x4)), _, rfl, by omega, by go_num, rfl, by omega, by omega, by simp; exact Hrl.out, HQ.out⟩
        case measure =>
          simp [intOf]
          omega
        skip
      go_wp2_with fail
      refine (below_any g A n cap zs 3 w6 M6.out.cur).mono ?_
      rintro e w7 ⟨x7, rfl, hx7, hc7, hg7⟩
      obtain ⟨x70, x71⟩ := hx7.2 (by decide)
      have M7 := Lib.hid (M6.out.draw hgw hc7 hg7)
      clear hc7 hg7 hx7 M6
      by_cases e0 : x7 = 0
      case pos =>
        subst e0
        go_wp2_with fail
        refine (pick_any g A n cap zs w7.heap.size 2 2 [-1, 3] _ (M7.out.cur.alloc _) (by have := M7.out.old.size; omega) rfl (by decide) (by decide) (fun i hi => new_cells w7 [-1, 3] 3 i hi)).mono ?_
        rintro e w8 ⟨x8, rfl, _, hc8, hg8⟩
        have M8 := Lib.hid ((M7.out.alloc _).draw hgw hc8 hg8)
        clear hc8 hg8 M7
        obtain ⟨c0, c1, c2, f1, f2⟩ := cell3 M8.out.op
        have f0 : w8.frozen? ⟨b, 0, none⟩ = false := frozen_of_row _ _ 0 _ _ M8.out.op
        have M9 := Lib.hid (M8.out.store hgw 0 (.int .i64 x8) (x' := x8) rfl)
        clear M8
        go_wp2_with (at_builtin; refine wpList_append_own_at _ rfl _ _ 24 rfl w.heap.size 29 i0 _ 1 24 Try.underlying24 Hi0.out Hz0.out Hz1.out Hz2.out rfl (by decide) v rs.length (rs.map Dr.val) rfl ?c0h ⟨w8.heap.size, 0, none⟩ 1 1 [Dr.val (⟨b, 3, [x8, (t + x4), (t + x3)]⟩ : Dr)] rfl ?c6h ?c1h ?c2h ?c3h ?c4h ?c5h ?_)
        case c0h => exact (HK.out _ (M9.out).old).alloc _
        try case c6h => rfl
        try case c1h => exact new_one_at (w := (w8.setCell ⟨b, 0, none⟩ (.int .i64 x8))) (by first | rfl | simp [World.setCell]) _ _
        try case c2h => first | (simp [Value.oneCell', Dr.val]; done) | (intro u hu; simp at hu; subst hu; rfl)
        try case c3h => first | (unfold maxLen; omega) | (simp [maxLen]; omega)
        try case c4h => first | omega | (simp; omega)
        try case c5h => (have := (M9.out).old.size; have := St.out.old.size; first | omega | (simp; omega) | (simp [World.setCell] at *; omega))
        intro v9 w9 hown hgr _ hat
        have HQ := Lib.hid (OpSt.push (r := (⟨b, 3, [x8, (t + x4), (t + x3)]⟩ : Dr)) St.out hg M9.out rfl M9.out.ri.1 (fun h => by first | rfl | (exact absurd h (by simp))) (by simp) hown hgr hat (by first | omega | simp [World.setCell]))
        clear hown hgr hat
        go_wp2
        go_roundw
        case rel => exact ⟨v9, k + 1, ((t + x4)), _, rfl, by omega, by go_num, rfl, by omega, by omega, by simp; exact Hrl.out, HQ.out⟩
        case measure =>
          simp [intOf]
          omega
        skip
      by_cases e1 : x7 = 1
      case pos =>
        subst e1
        go_wp2_with (at_builtin; refine wpList_append_own_at _ rfl _ _ 24 rfl w.heap.size 29 i0 _ 1 24 Try.underlying24 Hi0.out Hz0.out Hz1.out Hz2.out rfl (by decide) v rs.length (rs.map Dr.val) rfl ?c0h ⟨w7.heap.size, 0, none⟩ 1 1 [Dr.val (⟨b, 3, [2, (t + x4)]⟩ : Dr)] rfl ?c6h ?c1h ?c2h ?c3h ?c4h ?c5h ?_)
        case c0h => exact (HK.out _ (M7.out).old).alloc _
        try case c6h => rfl
        try case c1h => exact new_one_at (w := w7) (by first | rfl | simp [World.setCell]) _ _
        try case c2h => first | (simp [Value.oneCell', Dr.val]; done) | (intro u hu; simp at hu; subst hu; rfl)
        try case c3h => first | (unfold maxLen; omega) | (simp [maxLen]; omega)
        try case c4h => first | omega | (simp; omega)
        try case c5h => (have := (M7.out).old.size; have := St.out.old.size; first | omega | (simp; omega) | (simp [World.setCell] at *; omega))
        intro v9 w9 hown hgr _ hat
        have HQ := Lib.hid (OpSt.push (r := (⟨b, 3, [2, (t + x4)]⟩ : Dr)) St.out hg M7.out rfl M7.out.ri.2 (fun h => by first | rfl | (exact absurd h (by simp))) (by simp) hown hgr hat (by first | omega | simp [World.setCell]))
        clear hown hgr hat
        go_wp2
        go_roundw
        case rel => exact ⟨v9, k + 1, ((t + x4)), _, rfl, by omega, by go_num, rfl, by omega, by omega, by simp; exact Hrl.out, HQ.out⟩
        case measure =>
          simp [intOf]
          omega
        skip
      obtain rfl : x7 = 2 := by omega
      go_wp2_with fail
      refine (pick_any g A n cap zs w7.heap.size 3 3 [0, -1, 1000000001] _ (M7.out.cur.alloc _) (by have := M7.out.old.size; omega) rfl (by decide) (by decide) (fun i hi => new_cells w7 [0, -1, 1000000001] 3 i hi)).mono ?_
      rintro e w8 ⟨x8, rfl, _, hc8, hg8⟩
      have M8 := Lib.hid ((M7.out.alloc _).draw hgw hc8 hg8)
      clear hc8 hg8 M7
      obtain ⟨c0, c1, c2, f1, f2⟩ := cell3 M8.out.op
      have M9 := Lib.hid (M8.out.store hgw 1 (.int .i64 x8) (y' := x8) rfl)
      clear M8
      go_wp2_with (at_builtin; refine wpList_append_own_at _ rfl _ _ 24 rfl w.heap.size 29 i0 _ 1 24 Try.underlying24 Hi0.out Hz0.out Hz1.out Hz2.out rfl (by decide) v rs.length (rs.map Dr.val) rfl ?c0h ⟨w8.heap.size, 0, none⟩ 1 1 [Dr.val (⟨b, 3, [2, x8, (t + x3)]⟩ : Dr)] rfl ?c6h ?c1h ?c2h ?c3h ?c4h ?c5h ?_)
      case c0h => exact (HK.out _ (M9.out).old).alloc _
      try case c6h => rfl
      try case c1h => exact new_one_at (w := (w8.setCell ⟨b, 1, none⟩ (.int .i64 x8))) (by first | rfl | simp [World.setCell]) _ _
      try case c2h => first | (simp [Value.oneCell', Dr.val]; done) | (intro u hu; simp at hu; subst hu; rfl)
      try case c3h => first | (unfold maxLen; omega) | (simp [maxLen]; omega)
      try case c4h => first | omega | (simp; omega)
      try case c5h => (have := (M9.out).old.size; have := St.out.old.size; first | omega | (simp; omega) | (simp [World.setCell] at *; omega))
      intro v9 w9 hown hgr _ hat
      have HQ := Lib.hid (OpSt.push (r := (⟨b, 3, [2, x8, (t + x3)]⟩ : Dr)) St.out hg M9.out rfl M9.out.ri.1 (fun h => by first | rfl | (exact absurd h (by simp))) (by simp) hown hgr hat (by first | omega | simp [World.setCell]))
      clear hown hgr hat
      go_wp2
      go_roundw
      case rel => exact ⟨v9, k + 1, ((t + x4)), _, rfl, by omega, by go_num, rfl, by omega, by omega, by simp; exact Hrl.out, HQ.out⟩
      case measure =>
        simp [intOf]
        omega
      skip
      skip
    · have hx' : (x1 == 2) = false := by simp; exact hx
      go_wp2_with fail
      refine (once_any g A n cap zs 30 _ MD.out.cur).mono ?_
      rintro e w6 ⟨o6, rfl, hc6, hg6⟩
      have M6 := Lib.hid (MD.out.draw hgw hc6 hg6)
      clear hc6 hg6 MD
      generalize w3.heap.size = b at M6 ⊢
      cases o6
      case false =>
        go_wp2_with (at_builtin; refine wpList_append_own_at _ rfl _ _ 24 rfl w.heap.size 29 i0 _ 1 24 Try.underlying24 Hi0.out Hz0.out Hz1.out Hz2.out rfl (by decide) v rs.length (rs.map Dr.val) rfl ?c0h ⟨w6.heap.size, 0, none⟩ 1 1 [Dr.val (⟨b, 3, [x1, (1 + x2), (t + x3)]⟩ : Dr)] rfl ?c6h ?c1h ?c2h ?c3h ?c4h ?c5h ?_)
        case c0h => exact (HK.out _ (M6.out).old).alloc _
        try case c6h => rfl
        try case c1h => exact new_one_at (w := w6) (by first | rfl | simp [World.setCell]) _ _
        try case c2h => first | (simp [Value.oneCell', Dr.val]; done) | (intro u hu; simp at hu; subst hu; rfl)
        try case c3h => first | (unfold maxLen; omega) | (simp [maxLen]; omega)
        try case c4h => first | omega | (simp; omega)
        try case c5h => (have := (M6.out).old.size; have := St.out.old.size; first | omega | (simp; omega) | (simp [World.setCell] at *; omega))
        intro v9 w9 hown hgr _ hat
        have HQ := Lib.hid (OpSt.push (r := (⟨b, 3, [x1, (1 + x2), (t + x3)]⟩ : Dr)) St.out hg M6.out rfl M6.out.ri.1 (fun h => by first | rfl | (exact absurd h (by simp))) (by simp) hown hgr hat (by first | omega | simp [World.setCell]))
        clear hown hgr hat
        go_wp2
        go_roundw
        case rel => exact ⟨v9, k + 1, (t), _, rfl, by omega, by go_num, rfl, by omega, by omega, by simp; exact Hrl.out, HQ.out⟩
        case measure =>
          simp [intOf]
          omega
        skip
      go_wp2_with fail
      refine (below_any g A n cap zs 3 w6 M6.out.cur).mono ?_
      rintro e w7 ⟨x7, rfl, hx7, hc7, hg7⟩
      obtain ⟨x70, x71⟩ := hx7.2 (by decide)
      have M7 := Lib.hid (M6.out.draw hgw hc7 hg7)
      clear hc7 hg7 hx7 M6
      by_cases e0 : x7 = 0
      case pos =>
        subst e0
        go_wp2_with fail
        refine (pick_any g A n cap zs w7.heap.size 2 2 [-1, 3] _ (M7.out.cur.alloc _) (by have := M7.out.old.size; omega) rfl (by decide) (by decide) (fun i hi => new_cells w7 [-1, 3] 3 i hi)).mono ?_
        rintro e w8 ⟨x8, rfl, _, hc8, hg8⟩
        have M8 := Lib.hid ((M7.out.alloc _).draw hgw hc8 hg8)
        clear hc8 hg8 M7
        obtain ⟨c0, c1, c2, f1, f2⟩ := cell3 M8.out.op
        have f0 : w8.frozen? ⟨b, 0, none⟩ = false := frozen_of_row _ _ 0 _ _ M8.out.op
        have M9 := Lib.hid (M8.out.store hgw 0 (.int .i64 x8) (x' := x8) rfl)
        clear M8
        go_wp2_with (at_builtin; refine wpList_append_own_at _ rfl _ _ 24 rfl w.heap.size 29 i0 _ 1 24 Try.underlying24 Hi0.out Hz0.out Hz1.out Hz2.out rfl (by decide) v rs.length (rs.map Dr.val) rfl ?c0h ⟨w8.heap.size, 0, none⟩ 1 1 [Dr.val (⟨b, 3, [x8, (1 + x2), (t + x3)]⟩ : Dr)] rfl ?c6h ?c1h ?c2h ?c3h ?c4h ?c5h ?_)
        case c0h => exact (HK.out _ (M9.out).old).alloc _
        try case c6h => rfl
        try case c1h => exact new_one_at (w := (w8.setCell ⟨b, 0, none⟩ (.int .i64 x8))) (by first | rfl | simp [World.setCell]) _ _
        try case c2h => first | (simp [Value.oneCell', Dr.val]; done) | (intro u hu; simp at hu; subst hu; rfl)
        try case c3h => first | (unfold maxLen; omega) | (simp [maxLen]; omega)
        try case c4h => first | omega | (simp; omega)
        try case c5h => (have := (M9.out).old.size; have := St.out.old.size; first | omega | (simp; omega) | (simp [World.setCell] at *; omega))
        intro v9 w9 hown hgr _ hat
        have HQ := Lib.hid (OpSt.push (r := (⟨b, 3, [x8, (1 + x2), (t + x3)]⟩ : Dr)) St.out hg M9.out rfl M9.out.ri.1 (fun h => by first | rfl | (exact absurd h (by simp))) (by simp) hown hgr hat (by first | omega | simp [World.setCell]))
        clear hown hgr hat
        go_wp2
        go_roundw
        case rel => exact ⟨v9, k + 1, (t), _, rfl, by omega, by go_num, rfl, by omega, by omega, by simp; exact Hrl.out, HQ.out⟩
        case measure =>
          simp [intOf]
          omega
        skip
      by_cases e1 : x7 = 1
      case pos =>
        subst e1
        go_wp2_with (at_builtin; refine wpList_append_own_at _ rfl _ _ 24 rfl w.heap.size 29 i0 _ 1 24 Try.underlying24 Hi0.out Hz0.out Hz1.out Hz2.out rfl (by decide) v rs.length (rs.map Dr.val) rfl ?c0h ⟨w7.heap.size, 0, none⟩ 1 1 [Dr.val (⟨b, 3, [x1, (1 + x2)]⟩ : Dr)] rfl ?c6h ?c1h ?c2h ?c3h ?c4h ?c5h ?_)
        case c0h => exact (HK.out _ (M7.out).old).alloc _
        try case c6h => rfl
        try case c1h => exact new_one_at (w := w7) (by first | rfl | simp [World.setCell]) _ _
        try case c2h => first | (simp [Value.oneCell', Dr.val]; done) | (intro u hu; simp at hu; subst hu; rfl)
        try case c3h => first | (unfold maxLen; omega) | (simp [maxLen]; omega)
        try case c4h => first | omega | (simp; omega)
        try case c5h => (have := (M7.out).old.size; have := St.out.old.size; first | omega | (simp; omega) | (simp [World.setCell] at *; omega))
        intro v9 w9 hown hgr _ hat
        have HQ := Lib.hid (OpSt.push (r := (⟨b, 3, [x1, (1 + x2)]⟩ : Dr)) St.out hg M7.out rfl M7.out.ri.2 (fun h => by first | rfl | (exact absurd h (by simp))) (by simp) hown hgr hat (by first | omega | simp [World.setCell]))
        clear hown hgr hat
        go_wp2
        go_roundw
        case rel => exact ⟨v9, k + 1, (t), _, rfl, by omega, by go_num, rfl, by omega, by omega, by simp; exact Hrl.out, HQ.out⟩
        case measure =>
          simp [intOf]
          omega
        skip
      obtain rfl : x7 = 2 := by omega
      go_wp2_with fail
      refine (pick_any g A n cap zs w7.heap.size 3 3 [0, -1, 1000000001] _ (M7.out.cur.alloc _) (by have := M7.out.old.size; omega) rfl (by decide) (by decide) (fun i hi => new_cells w7 [0, -1, 1000000001] 3 i hi)).mono ?_
      rintro e w8 ⟨x8, rfl, _, hc8, hg8⟩
      have M8 := Lib.hid ((M7.out.alloc _).draw hgw hc8 hg8)
      clear hc8 hg8 M7
      obtain ⟨c0, c1, c2, f1, f2⟩ := cell3 M8.out.op
      have M9 := Lib.hid (M8.out.store hgw 1 (.int .i64 x8) (y' := x8) rfl)
      clear M8
      go_wp2_with (at_builtin; refine wpList_append_own_at _ rfl _ _ 24 rfl w.heap.size 29 i0 _ 1 24 Try.underlying24 Hi0.out Hz0.out Hz1.out Hz2.out rfl (by decide) v rs.length (rs.map Dr.val) rfl ?c0h ⟨w8.heap.size, 0, none⟩ 1 1 [Dr.val (⟨b, 3, [x1, x8, (t + x3)]⟩ : Dr)] rfl ?c6h ?c1h ?c2h ?c3h ?c4h ?c5h ?_)
      case c0h => exact (HK.out _ (M9.out).old).alloc _
      try case c6h => rfl
      try case c1h => exact new_one_at (w := (w8.setCell ⟨b, 1, none⟩ (.int .i64 x8))) (by first | rfl | simp [World.setCell]) _ _
      try case c2h => first | (simp [Value.oneCell', Dr.val]; done) | (intro u hu; simp at hu; subst hu; rfl)
      try case c3h => first | (unfold maxLen; omega) | (simp [maxLen]; omega)
      try case c4h => first | omega | (simp; omega)
      try case c5h => (have := (M9.out).old.size; have := St.out.old.size; first | omega | (simp; omega) | (simp [World.setCell] at *; omega))
      intro v9 w9 hown hgr _ hat
      have HQ := Lib.hid (OpSt.push (r := (⟨b, 3, [x1, x8, (t + x3)]⟩ : Dr)) St.out hg M9.out rfl M9.out.ri.1 (fun h => by first | rfl | (exact absurd h (by simp))) (by simp) hown hgr hat (by first | omega | simp [World.setCell]))
      clear hown hgr hat
      go_wp2
      go_roundw
      case rel => exact ⟨v9, k + 1, (t), _, rfl, by omega, by go_num, rfl, by omega, by omega, by simp; exact Hrl.out, HQ.out⟩
      case measure =>
        simp [intOf]
        omega
      skip
      skip
end Go.Proofs.Ytnmhdbfemobhkaa.Hp
