/- The breaker behind a failure, the program's. -/
import Derived.Test.YtmmoelijpemlfaaBc9
namespace Go.Proofs.Ytmmoelijpemlfaa.Bk
open Go.RowKit Go.Deep Base Rw Tick Cf

/-- Whether a failure is still within the window. -/
def inW (c : Nat → Int) (now : Int) (x : Int) : Bool := decide (now - c 10 ≤ x)
theorem kept_eq (c : Nat → Int) (s u now : Int) (zs : List Int) : keptF c ⟨s, zs, u⟩ now = zs.filter (inW c now) ++ [now] := rfl
theorem filter_take_yes {p : Int → Bool} {zs : List Int} {k : Nat} (h : k < zs.length) (hp : p (zs.getD k 0) = true) : (zs.take (k + 1)).filter p = (zs.take k).filter p ++ [zs.getD k 0] := by
  have e : zs[k] = zs.getD k 0 := by simp [List.getD_eq_getElem?_getD, h]
  rw [List.take_succ_eq_append_getElem h, List.filter_append, e]
  simp only [List.filter_cons, hp]
  rfl
theorem filter_take_no {p : Int → Bool} {zs : List Int} {k : Nat} (h : k < zs.length) (hp : p (zs.getD k 0) = false) : (zs.take (k + 1)).filter p = (zs.take k).filter p := by
  have e : zs[k] = zs.getD k 0 := by simp [List.getD_eq_getElem?_getD, h]
  rw [List.take_succ_eq_append_getElem h, List.filter_append, e]
  simp only [List.filter_cons, hp]
  simp
theorem filter_few (p : Int → Bool) (zs : List Int) (k : Nat) : ((zs.take k).filter p).length ≤ k := Nat.le_trans (List.length_filter_le _ _) (by simp; omega)

set_option maxRecDepth 100000 in
set_option maxHeartbeats 2000000 in
theorem recent_any (c : Nat → Int) (A : Option Addr) (n cap : Nat) (now : Int) (zs : List Int) (w : World) (hn : zs.length = n) (hm : n ≤ 1048576) (h : Ints w A zs) (h0 : 0 ≤ now) (h1 : now ≤ 1000000000) (c0 : 0 ≤ c 10) (c1 : c 10 ≤ 1000000000) :
    Calls Try.prog 81 #[.agg #[.int .i64 (c 0), .int .i64 (c 1), .int .i64 (c 2), .int .i64 (c 3), .int .i64 (c 4), .int .i64 (c 5), .int .i64 (c 6), .int .i64 (c 7), .int .i64 (c 8), .int .i64 (c 9), .int .i64 (c 10), .int .i64 (c 11), .int .i64 (c 12), .int .i64 (c 13)], .slice A n cap, .int .i64 now] w (NewI w (zs.filter (inW c now) ++ [now])) := by
  have Hn := Lib.hid hn
  have HS := Lib.hid h
  clear h hn
  have Hw : Hid (IntKind.i64.wrap (now - c 10) = now - c 10) := IntWalk.i64_in _ (by omega)
  have Hp : Hid (∀ x, inW c now x = decide (now - c 10 ≤ x)) := fun _ => rfl
  generalize hpp : inW c now = p at Hp
  clear hpp
  obtain ⟨lo, hlo⟩ : ∃ lo, now - c 10 = lo := ⟨_, rfl⟩
  rw [hlo] at Hw Hp
  have Hlo := Lib.hid hlo
  obtain ⟨i0, hi0, hz0, hz1, hz2⟩ := info_parts infoInt
  have Hi0 := Lib.hid hi0
  have Hz0 := Lib.hid hz0
  have Hz1 := Lib.hid hz1
  have Hz2 := Lib.hid hz2
  clear hi0 hz0 hz1 hz2 hlo
  go_enter Try.func81, Try.ntmps81
  go_wp2_with fail
  obtain ⟨W0, hW0⟩ : ∃ W0, w.alloc (.cells #[.int .i64 (c 0), .int .i64 (c 1), .int .i64 (c 2), .int .i64 (c 3), .int .i64 (c 4), .int .i64 (c 5), .int .i64 (c 6), .int .i64 (c 7), .int .i64 (c 8), .int .i64 (c 9), .int .i64 (c 10), .int .i64 (c 11), .int .i64 (c 12), .int .i64 (c 13)] 25) = W0 := ⟨_, rfl⟩
  have B : Hid (Below w.heap.size w W0) := by rw [← hW0]; exact bel_alloc _ _
  have z0 : w.heap.size < W0.heap.size := by rw [← hW0]; simp
  have K : Hid (W0.heap[w.heap.size]? = some (.cells #[.int .i64 (c 0), .int .i64 (c 1), .int .i64 (c 2), .int .i64 (c 3), .int .i64 (c 4), .int .i64 (c 5), .int .i64 (c 6), .int .i64 (c 7), .int .i64 (c 8), .int .i64 (c 9), .int .i64 (c 10), .int .i64 (c 11), .int .i64 (c 12), .int .i64 (c 13)] 25 (0, 0))) := by rw [← hW0]; exact heap_alloc_new w _
  rw [hW0]
  clear hW0
  go_loopw [7, 12] (fun v i wr => ∃ (y : Value) (k : Nat), y = v ∧ k ≤ n ∧ i = .int .i64 k ∧ ListSt W0.heap.size W0 wr y ((zs.take k).filter p)) (fun _ i _ => n - (intOf i).toNat)
  case atStart => exact ⟨_, 0, rfl, Nat.zero_le _, rfl, ListSt.nil W0⟩
  case round =>
    obtain ⟨y, k, rfl, hk, rfl, hst⟩ := hrel
    have z1 : W0.heap.size ≤ wr.heap.size := hst.old.size
    have HB := Lib.hid (bel_trans B.out hst.old)
    have x10 : wr.cell? ⟨w.heap.size, 10, none⟩ = some (.int .i64 (c 10)) := cell_of_row _ _ 10 _ _ (0, 0) ((hst.old.block _ z0).trans K.out)
    have hfew := filter_few p zs k
    obtain ⟨ts, hts⟩ : ∃ ts, (zs.take k).filter p = ts := ⟨_, rfl⟩
    rw [hts] at hst hfew
    have Hts := Lib.hid hts
    have Hst := Lib.hid hst
    clear hst hts
    by_cases hlt : k < n
    · obtain ⟨g, off, rfl, hc⟩ := HS.out.below HB.out (by have := Hn.out; omega)
      have hck := hc k (by have := Hn.out; omega)
      clear hc
      have HY := Lib.hid (filter_take_yes (p := p) (zs := zs) (k := k) (by have := Hn.out; omega))
      have HN := Lib.hid (filter_take_no (p := p) (zs := zs) (k := k) (by have := Hn.out; omega))
      rw [Hts.out] at HY HN
      generalize zs.getD k 0 = z at hck HY HN
      have hw1 := Hw.out
      have hlo := Hlo.out
      by_cases hp : lo ≤ z
      · have HY' := Lib.hid (HY.out (by rw [Hp.out]; exact decide_eq_true hp))
        clear HN HY
        go_wp2_with (at_builtin; refine wpList_append_own _ rfl _ _ 29 rfl W0.heap.size 3 i0 (.int .i64 0) 1 8 Try.underlying29 Hi0.out Hz0.out Hz1.out Hz2.out rfl (by decide) _ _ _ rfl (Hst.out.own.alloc _) ⟨wr.heap.size, 0, none⟩ 1 1 [.int .i64 z] rfl rfl ?c1h ?c2h ?c3h ?c4h ?c5h ?_)
        case c1h => exact new_one_at rfl _ _
        case c2h => simp [Value.oneCell']
        case c3h => unfold maxLen; omega
        case c4h => omega
        case c5h => simp; omega
        · intro v' w4 hown hg _
          have hst1 := Hst.out.step rfl hown hg
          rw [← HY'.out] at hst1
          have HQ := Lib.hid hst1
          clear hst1 hown hg
          go_wp2
          go_roundw
          case rel => exact ⟨_, k + 1, rfl, by omega, by go_num, HQ.out⟩
          case measure => simp [intOf]; omega
      · have HN' := Lib.hid (HN.out (by rw [Hp.out]; exact decide_eq_false hp))
        clear HN HY
        go_wp2
        go_roundw
        case rel => exact ⟨_, k + 1, rfl, by omega, by go_num, by rw [HN'.out]; exact Hst.out⟩
        case measure => simp [intOf]; omega
    · have hkn : k = n := by omega
      have HT : Hid (zs.filter p = ts) := by have := Hts.out; rwa [show zs.take k = zs from List.take_of_length_le (by have := Hn.out; omega)] at this
      clear x10
      go_wp2_with (at_builtin; refine wpList_append_own _ rfl _ _ 29 rfl W0.heap.size 3 i0 (.int .i64 0) 1 8 Try.underlying29 Hi0.out Hz0.out Hz1.out Hz2.out rfl (by decide) _ _ _ rfl (Hst.out.own.alloc _) ⟨wr.heap.size, 0, none⟩ 1 1 [.int .i64 now] rfl rfl ?c1h ?c2h ?c3h ?c4h ?c5h ?_)
      case c1h => exact new_one_at rfl _ _
      case c2h => simp [Value.oneCell']
      case c3h => unfold maxLen; omega
      case c4h => omega
      case c5h => simp; omega
      · intro v' w4 hown hg _
        have hst1 := Hst.out.step rfl hown hg
        rw [← HT.out] at hst1
        obtain ⟨A', cap', rfl⟩ := owns_form hst1.own
        have HQ := Lib.hid hst1
        clear hst1 hown hg
        go_wp2
        go_ret
        exact ⟨A', cap', rfl, (iv_owns HQ.out.own).wide (by have := B.out.size; omega) (Nat.le_refl _), bel_trans B.out HQ.out.old⟩
end Go.Proofs.Ytmmoelijpemlfaa.Bk
