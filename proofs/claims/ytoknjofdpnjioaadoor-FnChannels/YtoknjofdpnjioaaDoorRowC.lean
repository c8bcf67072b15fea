/- Rows of integers: grown, cloned (slices.Clone). -/
import Derived.Test.YtoknjofdpnjioaaDoorIntN
import Derived.Maps.AppendAt
import Derived.Lib.SliceRun
import Derived.Deep.RegionHeld3
import Derived.Deep.RegionLaw
namespace Go.Proofs.YtoknjofdpnjioaaDoor.Rw
open Go.RowKit Go.Deep Base

theorem ListSt.nil (W : World) : ListSt W.heap.size W W (.slice none 0 0) [] := ⟨World.ownsRow_nil _ _ _ _, Below.refl _ _⟩
theorem ListSt.empty (W : World) : ListSt W.heap.size W (W.alloc (.cells #[] 3)) (.slice (some ⟨W.heap.size, 0, none⟩) 0 0) [] := by
  refine ⟨?_, bel_alloc _ _⟩
  have h := World.ownsRow_lit (base := W.heap.size) (e := 3) (size := 1) W #[] 0 (Nat.le_refl _) (by simp) (by simp)
  simpa using h
theorem ListSt.newI {W wr : World} {A : Option Addr} {n cap : Nat} {ids : List Int} (h : ListSt W.heap.size W wr (.slice A n cap) ids) (hn : ids.length = n) : NewI W ids (.returned (.slice A n cap)) wr := by
  subst hn
  exact ⟨A, cap, rfl, iv_owns h.own, h.old⟩

theorem map_one (zs : List Int) : ∀ u ∈ zs.map (Value.int .i64), u.oneCell' = true := by
  intro u hu
  rw [List.mem_map] at hu
  obtain ⟨z, _, rfl⟩ := hu
  rfl

set_option maxHeartbeats 400000 in
theorem cloneI_some (a : Addr) (n cap : Nat) (zs : List Int) (w : World) (hn : zs.length = n) (hm : n ≤ 1048576) (h : ∀ W, Below w.heap.size w W → ∀ j u, (zs.map (Value.int .i64))[j]? = some u → W.cell? (a.add j) = some u) :
    Calls Tryd.prog 45 #[.slice (some a) n cap] w (NewI w zs) := by
  have Hn := Lib.hid hn
  clear hn
  have HI := Lib.hid h
  clear h
  obtain ⟨i0, hi0, hz0, hz1, hz2⟩ := info_parts infoInt
  have Hi0 := Lib.hid hi0
  have Hz0 := Lib.hid hz0
  have Hz1 := Lib.hid hz1
  have Hz2 := Lib.hid hz2
  clear hi0 hz0 hz1 hz2
  have hnil := fun W => Lib.run_eql_slice_nil (P := Tryd.prog) W 24 3 (some a) n cap 0 0 Tryd.underlying24
  go_enter Tryd.func45, Tryd.ntmps45
  go_wp2_with (at_builtin; refine wpList_append_own _ rfl _ _ 24 rfl w.heap.size 3 i0 _ 1 8 Tryd.underlying24 Hi0.out Hz0.out Hz1.out Hz2.out rfl (by decide) _ 0 [] rfl ?c0h a n cap (zs.map (Value.int .i64)) rfl ?c6h ?c1h ?c2h ?c3h ?c4h ?c5h ?_)
  case c0h =>
    have h := World.ownsRow_lit (base := w.heap.size) (e := 3) (size := 1) w #[] 0 (Nat.le_refl _) (by simp) (by simp)
    simp at h
    exact h
  case c6h => rw [List.length_map, Hn.out]; omega
  case c1h => exact HI.out _ (bel_alloc w _)
  case c2h => exact map_one zs
  case c3h => unfold maxLen; omega
  case c4h => omega
  case c5h => simp
  · intro v' w1 hown hgr _
    obtain ⟨A', cap', rfl⟩ := owns_form hown
    have Ho := Lib.hid hown
    have Hg := Lib.hid hgr
    clear hown hgr
    go_wp2
    go_ret
    refine ⟨A', cap', by simp [Hn.out], iv_owns Ho.out, (bel_alloc w _).grown Hg.out (by simp) (fun k e => ?_)⟩
    simp [Value.ownBlock] at e
    omega

theorem cloneI_none (cap : Nat) (w : World) : Calls Tryd.prog 45 #[.slice none 0 cap] w (NewI w []) := by
  have hnil := fun W => Lib.run_eql_slice_nil (P := Tryd.prog) W 24 3 none 0 cap 0 0 Tryd.underlying24
  go_enter Tryd.func45, Tryd.ntmps45
  go_wp2
  go_ret
  exact ⟨none, 0, rfl, IV.nil _ _ _ _, Below.refl _ _⟩

theorem cloneI_any (A : Option Addr) (n cap : Nat) (zs : List Int) (w : World) (hn : zs.length = n) (hm : n ≤ 1048576) (h : Ints w A zs) :
    Calls Tryd.prog 45 #[.slice A n cap] w (NewI w zs) := by
  cases A with
  | none =>
    have h0 : zs = [] := by
      cases zs with
      | nil => rfl
      | cons s r => obtain ⟨_, _, e, _⟩ := h (by simp); cases e
    subst h0
    subst hn
    exact cloneI_none cap w
  | some a =>
    by_cases h0 : 0 < zs.length
    · refine cloneI_some a n cap zs w hn hm (fun W hb j u hj => ?_)
      obtain ⟨b, off, e, hc⟩ := h.below hb h0
      injection e with e
      subst e
      have hlt : j < zs.length := by have := (List.getElem?_eq_some_iff.1 hj).1; simpa using this
      rw [Addr.add_mid, hc j hlt]
      simp [hlt] at hj
      simp [List.getD_eq_getElem?_getD, hlt, hj]
    · have h0 : zs = [] := List.eq_nil_of_length_eq_zero (by omega)
      subst h0
      exact cloneI_some a n cap [] w hn hm (fun W _ j u hj => by simp at hj)


end Go.Proofs.YtoknjofdpnjioaaDoor.Rw
