/- Copies of rows of integers and of breakers: slices.Clone, the reference's l01Copy and l06Copy. -/
import Derived.Test.YtmmoelijpemlfaaBc4
import Derived.Maps.AppendAt
import Derived.Lib.SliceRun
import Derived.Deep.RegionHeld3
import Derived.Deep.RegionLaw
namespace Go.Proofs.Ytmmoelijpemlfaa.Rw
open Go.RowKit Go.Deep Base

theorem ListSt.nil (W : World) : ListSt W.heap.size W W (.slice none 0 0) [] := ⟨World.ownsRow_nil _ _ _ _, Below.refl _ _⟩
theorem ListSt.empty (W : World) : ListSt W.heap.size W (W.alloc (.cells #[] 3)) (.slice (some ⟨W.heap.size, 0, none⟩) 0 0) [] := by
  refine ⟨?_, bel_alloc _ _⟩
  have h := World.ownsRow_lit (base := W.heap.size) (e := 3) (size := 1) W #[] 0 (Nat.le_refl _) (by simp) (by simp)
  simpa using h
theorem ListSt.newI {W wr : World} {A : Option Addr} {n cap : Nat} {ids : List Int} (h : ListSt W.heap.size W wr (.slice A n cap) ids) (hn : ids.length = n) : NewI W ids (.returned (.slice A n cap)) wr := by
  subst hn
  exact ⟨A, cap, rfl, iv_owns h.own, h.old⟩

theorem map_one (zs : List Int) : ∀ u ∈ zs.map (Value.int .i64), u.oneCell' = true := by
  intro u hu
  rw [List.mem_map] at hu
  obtain ⟨z, _, rfl⟩ := hu
  rfl

set_option maxHeartbeats 400000 in
theorem cloneI_some (a : Addr) (n cap : Nat) (zs : List Int) (w : World) (hn : zs.length = n) (hm : n ≤ 1048576) (h : ∀ W, Below w.heap.size w W → ∀ j u, (zs.map (Value.int .i64))[j]? = some u → W.cell? (a.add j) = some u) :
    Calls Try.prog 69 #[.slice (some a) n cap] w (NewI w zs) := by
  have Hn := Lib.hid hn
  clear hn
  have HI := Lib.hid h
  clear h
  obtain ⟨i0, hi0, hz0, hz1, hz2⟩ := info_parts infoInt
  have Hi0 := Lib.hid hi0
  have Hz0 := Lib.hid hz0
  have Hz1 := Lib.hid hz1
  have Hz2 := Lib.hid hz2
  clear hi0 hz0 hz1 hz2
  have hnil := fun W => Lib.run_eql_slice_nil (P := Try.prog) W 29 3 (some a) n cap 0 0 Try.underlying29
  go_enter Try.func69, Try.ntmps69
  go_wp2_with (at_builtin; refine wpList_append_own _ rfl _ _ 29 rfl w.heap.size 3 i0 _ 1 8 Try.underlying29 Hi0.out Hz0.out Hz1.out Hz2.out rfl (by decide) _ 0 [] rfl ?c0h a n cap (zs.map (Value.int .i64)) rfl ?c6h ?c1h ?c2h ?c3h ?c4h ?c5h ?_)
  case c0h =>
    have h := World.ownsRow_lit (base := w.heap.size) (e := 3) (size := 1) w #[] 0 (Nat.le_refl _) (by simp) (by simp)
    simp at h
    exact h
  case c6h => rw [List.length_map, Hn.out]; omega
  case c1h => exact HI.out _ (bel_alloc w _)
  case c2h => exact map_one zs
  case c3h => unfold maxLen; omega
  case c4h => omega
  case c5h => simp
  · intro v' w1 hown hgr _
    obtain ⟨A', cap', rfl⟩ := owns_form hown
    have Ho := Lib.hid hown
    have Hg := Lib.hid hgr
    clear hown hgr
    go_wp2
    go_ret
    refine ⟨A', cap', by simp [Hn.out], iv_owns Ho.out, (bel_alloc w _).grown Hg.out (by simp) (fun k e => ?_)⟩
    simp [Value.ownBlock] at e
    omega

theorem cloneI_none (cap : Nat) (w : World) : Calls Try.prog 69 #[.slice none 0 cap] w (NewI w []) := by
  have hnil := fun W => Lib.run_eql_slice_nil (P := Try.prog) W 29 3 none 0 cap 0 0 Try.underlying29
  go_enter Try.func69, Try.ntmps69
  go_wp2
  go_ret
  exact ⟨none, 0, rfl, IV.nil _ _ _ _, Below.refl _ _⟩

theorem cloneI_any (A : Option Addr) (n cap : Nat) (zs : List Int) (w : World) (hn : zs.length = n) (hm : n ≤ 1048576) (h : Ints w A zs) :
    Calls Try.prog 69 #[.slice A n cap] w (NewI w zs) := by
  cases A with
  | none =>
    have h0 : zs = [] := by
      cases zs with
      | nil => rfl
      | cons s r => obtain ⟨_, _, e, _⟩ := h (by simp); cases e
    subst h0
    subst hn
    exact cloneI_none cap w
  | some a =>
    by_cases h0 : 0 < zs.length
    · refine cloneI_some a n cap zs w hn hm (fun W hb j u hj => ?_)
      obtain ⟨b, off, e, hc⟩ := h.below hb h0
      injection e with e
      subst e
      have hlt : j < zs.length := by have := (List.getElem?_eq_some_iff.1 hj).1; simpa using this
      rw [Addr.add_mid, hc j hlt]
      simp [hlt] at hj
      simp [List.getD_eq_getElem?_getD, hlt, hj]
    · have h0 : zs = [] := List.eq_nil_of_length_eq_zero (by omega)
      subst h0
      exact cloneI_some a n cap [] w hn hm (fun W _ j u hj => by simp at hj)

set_option maxRecDepth 100000 in
set_option maxHeartbeats 1000000 in
theorem copyI_any (A : Option Addr) (n cap : Nat) (zs : List Int) (w : World) (hn : zs.length = n) (hm : n ≤ 1048576) (h : Ints w A zs) :
    Calls Try.prog 75 #[.slice A n cap] w (NewI w zs) := by
  have Hn := Lib.hid hn
  have HS := Lib.hid h
  clear h hn
  go_enter Try.func75, Try.ntmps75
  go_wp2
  go_loopw [3, 4] (fun v i wr => ∃ (u : Value) (k : Nat), u = v ∧ k ≤ n ∧ i = .int .i64 k ∧ ListSt w.heap.size w wr u (zs.take k)) (fun _ i _ => n - (intOf i).toNat)
  case atStart => exact ⟨_, 0, rfl, Nat.zero_le _, rfl, ListSt.empty w⟩
  case round =>
    obtain ⟨u, k, rfl, hk, rfl, hst⟩ := hrel
    have z1 : w.heap.size ≤ wr.heap.size := hst.old.size
    obtain ⟨ts, hts⟩ : ∃ ts, zs.take k = ts := ⟨_, rfl⟩
    have hkl : ts.length = k := by rw [← hts, List.length_take]; have := Hn.out; omega
    rw [hts] at hst
    have Hts := Lib.hid hts
    have Hst := Lib.hid hst
    clear hst hts
    by_cases hlt : k < n
    · obtain ⟨g, off, rfl, hc⟩ := HS.out.below Hst.out.old (by have := Hn.out; omega)
      have hck := hc k (by have := Hn.out; omega)
      clear hc
      have Hx : Hid (zs.take (k + 1) = ts ++ [zs.getD k 0]) := by
        have hk' : k < zs.length := by have := Hn.out; omega
        show _ = _
        rw [← Hts.out, List.take_succ_eq_append_getElem hk']; simp [List.getD_eq_getElem?_getD, hk']
      generalize zs.getD k 0 = z at hck Hx
      obtain ⟨i0, hi0, hz0, hz1, hz2⟩ := info_parts infoInt
      have Hi0 := Lib.hid hi0
      have Hz0 := Lib.hid hz0
      have Hz1 := Lib.hid hz1
      have Hz2 := Lib.hid hz2
      have Hkl := Lib.hid hkl
      clear hi0 hz0 hz1 hz2 hkl
      go_wp2_with (at_builtin; refine wpList_append_own _ rfl _ _ 29 rfl w.heap.size 3 i0 (.int .i64 0) 1 8 Try.underlying29 Hi0.out Hz0.out Hz1.out Hz2.out rfl (by decide) _ _ _ rfl (Hst.out.own.alloc _) ⟨wr.heap.size, 0, none⟩ 1 1 [.int .i64 z] rfl rfl ?c1h ?c2h ?c3h ?c4h ?c5h ?_)
      case c1h => exact new_one_at rfl _ _
      case c2h => simp [Value.oneCell']
      case c3h => rw [Hkl.out]; unfold maxLen; omega
      case c4h => rw [Hkl.out]; omega
      case c5h => simp; omega
      · intro v' w4 hown hg _
        have hst1 := Hst.out.step rfl hown hg
        rw [← Hx.out] at hst1
        have HQ := Lib.hid hst1
        clear hst1 hown hg
        go_wp2
        go_roundw
        case rel => exact ⟨_, k + 1, rfl, by omega, by go_num, HQ.out⟩
        case measure => simp [intOf]; omega
    · obtain rfl : k = n := by omega
      obtain rfl : zs = ts := by have := Hts.out; rwa [show zs.take k = zs from List.take_of_length_le (by have := Hn.out; omega)] at this
      obtain ⟨A', cap', rfl⟩ := owns_form Hst.out.own
      go_wp2
      go_ret
      exact Hst.out.newI rfl
end Go.Proofs.Ytmmoelijpemlfaa.Rw
