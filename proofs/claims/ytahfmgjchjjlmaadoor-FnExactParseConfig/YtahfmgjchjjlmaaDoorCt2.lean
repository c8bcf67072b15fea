/- The program's map from the names of a configuration's fields to their places. -/
import Derived.Test.YtahfmgjchjjlmaaDoorMap1
namespace Go.Proofs.YtahfmgjchjjlmaaDoor.Fm
open Go.RowKit Go.Deep Base Cf Ct

def Full (l : List Nat) : Prop := (∀ k, k < 14 → k ∈ l) ∧ (∀ y, y ∈ l → y < 14) ∧ l.Nodup

def FieldsEnd (b : Nat) (w : World) (e : Ending) (w' : World) : Prop := ∃ l, e = .returned (.map (some w.heap.size)) ∧ Full l ∧ Fm w' w.heap.size b l ∧ Below w.heap.size w w'

set_option maxRecDepth 100000 in
set_option maxHeartbeats 4000000 in
theorem fields_any (b : Nat) (w : World) : Calls Tryd.prog 16 #[.pointer (some ⟨b, 0, none⟩)] w (FieldsEnd b w) := by
  go_enter Tryd.func16, Tryd.ntmps16
  go_wp2_with fail
  refine wp_region_held_drew (S := fun _ => True) (by kernel_rfl) trivial (fun _ => ?_)
  refine wpAnyH_take (i := 1) (v := (.pointer (some ⟨b, 0, none⟩))) rfl (by kernel_rfl) (by kernel_rfl) (by kernel_rfl) (fun _ _ _ h => h) (.inl ⟨rfl, fun V hS => ?y0⟩) trivial ?_
  case y0 => go_simp
  go_simp
  refine wpAnyH_take (i := 2) (v := (.pointer (some ⟨b, 0, none⟩))) rfl (by kernel_rfl) (by kernel_rfl) (by kernel_rfl) (fun _ _ _ h => h) (.inl ⟨rfl, fun V hS => ?y0⟩) trivial ?_
  case y0 => go_simp
  go_simp
  refine wpAnyH_take (i := 3) (v := (.pointer (some ⟨b, 0, none⟩))) rfl (by kernel_rfl) (by kernel_rfl) (by kernel_rfl) (fun _ _ _ h => h) (.inl ⟨rfl, fun V hS => ?y0⟩) trivial ?_
  case y0 => go_simp
  go_simp
  refine wpAnyH_take (i := 5) (v := (.pointer (some ⟨b, 0, none⟩))) rfl (by kernel_rfl) (by kernel_rfl) (by kernel_rfl) (fun _ _ _ h => h) (.inl ⟨rfl, fun V hS => ?y0⟩) trivial ?_
  case y0 => go_simp
  go_simp
  refine wpAnyH_take (i := 6) (v := (.pointer (some ⟨b, 0, none⟩))) rfl (by kernel_rfl) (by kernel_rfl) (by kernel_rfl) (fun _ _ _ h => h) (.inl ⟨rfl, fun V hS => ?y0⟩) trivial ?_
  case y0 => go_simp
  go_simp
  refine wpAnyH_take (i := 7) (v := (.pointer (some ⟨b, 1, none⟩))) rfl (by kernel_rfl) (by kernel_rfl) (by kernel_rfl) (fun _ _ _ h => h) (.inl ⟨rfl, fun V hS => ?y0⟩) trivial ?_
  case y0 => go_simp
  go_simp
  refine wpAnyH_take (i := 9) (v := (.pointer (some ⟨b, 0, none⟩))) rfl (by kernel_rfl) (by kernel_rfl) (by kernel_rfl) (fun _ _ _ h => h) (.inl ⟨rfl, fun V hS => ?y0⟩) trivial ?_
  case y0 => go_simp
  go_simp
  refine wpAnyH_take (i := 10) (v := (.pointer (some ⟨b, 0, none⟩))) rfl (by kernel_rfl) (by kernel_rfl) (by kernel_rfl) (fun _ _ _ h => h) (.inl ⟨rfl, fun V hS => ?y0⟩) trivial ?_
  case y0 => go_simp
  go_simp
  refine wpAnyH_take (i := 11) (v := (.pointer (some ⟨b, 2, none⟩))) rfl (by kernel_rfl) (by kernel_rfl) (by kernel_rfl) (fun _ _ _ h => h) (.inl ⟨rfl, fun V hS => ?y0⟩) trivial ?_
  case y0 => go_simp
  go_simp
  refine wpAnyH_take (i := 13) (v := (.pointer (some ⟨b, 0, none⟩))) rfl (by kernel_rfl) (by kernel_rfl) (by kernel_rfl) (fun _ _ _ h => h) (.inl ⟨rfl, fun V hS => ?y0⟩) trivial ?_
  case y0 => go_simp
  go_simp
  refine wpAnyH_take (i := 14) (v := (.pointer (some ⟨b, 0, none⟩))) rfl (by kernel_rfl) (by kernel_rfl) (by kernel_rfl) (fun _ _ _ h => h) (.inl ⟨rfl, fun V hS => ?y0⟩) trivial ?_
  case y0 => go_simp
  go_simp
  refine wpAnyH_take (i := 15) (v := (.pointer (some ⟨b, 3, none⟩))) rfl (by kernel_rfl) (by kernel_rfl) (by kernel_rfl) (fun _ _ _ h => h) (.inl ⟨rfl, fun V hS => ?y0⟩) trivial ?_
  case y0 => go_simp
  go_simp
  refine wpAnyH_take (i := 17) (v := (.pointer (some ⟨b, 0, none⟩))) rfl (by kernel_rfl) (by kernel_rfl) (by kernel_rfl) (fun _ _ _ h => h) (.inl ⟨rfl, fun V hS => ?y0⟩) trivial ?_
  case y0 => go_simp
  go_simp
  refine wpAnyH_take (i := 18) (v := (.pointer (some ⟨b, 0, none⟩))) rfl (by kernel_rfl) (by kernel_rfl) (by kernel_rfl) (fun _ _ _ h => h) (.inl ⟨rfl, fun V hS => ?y0⟩) trivial ?_
  case y0 => go_simp
  go_simp
  refine wpAnyH_take (i := 19) (v := (.pointer (some ⟨b, 4, none⟩))) rfl (by kernel_rfl) (by kernel_rfl) (by kernel_rfl) (fun _ _ _ h => h) (.inl ⟨rfl, fun V hS => ?y0⟩) trivial ?_
  case y0 => go_simp
  go_simp
  refine wpAnyH_take (i := 21) (v := (.pointer (some ⟨b, 0, none⟩))) rfl (by kernel_rfl) (by kernel_rfl) (by kernel_rfl) (fun _ _ _ h => h) (.inl ⟨rfl, fun V hS => ?y0⟩) trivial ?_
  case y0 => go_simp
  go_simp
  refine wpAnyH_take (i := 22) (v := (.pointer (some ⟨b, 0, none⟩))) rfl (by kernel_rfl) (by kernel_rfl) (by kernel_rfl) (fun _ _ _ h => h) (.inl ⟨rfl, fun V hS => ?y0⟩) trivial ?_
  case y0 => go_simp
  go_simp
  refine wpAnyH_take (i := 23) (v := (.pointer (some ⟨b, 5, none⟩))) rfl (by kernel_rfl) (by kernel_rfl) (by kernel_rfl) (fun _ _ _ h => h) (.inl ⟨rfl, fun V hS => ?y0⟩) trivial ?_
  case y0 => go_simp
  go_simp
  refine wpAnyH_take (i := 25) (v := (.pointer (some ⟨b, 0, none⟩))) rfl (by kernel_rfl) (by kernel_rfl) (by kernel_rfl) (fun _ _ _ h => h) (.inl ⟨rfl, fun V hS => ?y0⟩) trivial ?_
  case y0 => go_simp
  go_simp
  refine wpAnyH_take (i := 26) (v := (.pointer (some ⟨b, 0, none⟩))) rfl (by kernel_rfl) (by kernel_rfl) (by kernel_rfl) (fun _ _ _ h => h) (.inl ⟨rfl, fun V hS => ?y0⟩) trivial ?_
  case y0 => go_simp
  go_simp
  refine wpAnyH_take (i := 27) (v := (.pointer (some ⟨b, 6, none⟩))) rfl (by kernel_rfl) (by kernel_rfl) (by kernel_rfl) (fun _ _ _ h => h) (.inl ⟨rfl, fun V hS => ?y0⟩) trivial ?_
  case y0 => go_simp
  go_simp
  refine wpAnyH_take (i := 29) (v := (.pointer (some ⟨b, 0, none⟩))) rfl (by kernel_rfl) (by kernel_rfl) (by kernel_rfl) (fun _ _ _ h => h) (.inl ⟨rfl, fun V hS => ?y0⟩) trivial ?_
  case y0 => go_simp
  go_simp
  refine wpAnyH_take (i := 30) (v := (.pointer (some ⟨b, 0, none⟩))) rfl (by kernel_rfl) (by kernel_rfl) (by kernel_rfl) (fun _ _ _ h => h) (.inl ⟨rfl, fun V hS => ?y0⟩) trivial ?_
  case y0 => go_simp
  go_simp
  refine wpAnyH_take (i := 31) (v := (.pointer (some ⟨b, 7, none⟩))) rfl (by kernel_rfl) (by kernel_rfl) (by kernel_rfl) (fun _ _ _ h => h) (.inl ⟨rfl, fun V hS => ?y0⟩) trivial ?_
  case y0 => go_simp
  go_simp
  refine wpAnyH_take (i := 33) (v := (.pointer (some ⟨b, 0, none⟩))) rfl (by kernel_rfl) (by kernel_rfl) (by kernel_rfl) (fun _ _ _ h => h) (.inl ⟨rfl, fun V hS => ?y0⟩) trivial ?_
  case y0 => go_simp
  go_simp
  refine wpAnyH_take (i := 34) (v := (.pointer (some ⟨b, 0, none⟩))) rfl (by kernel_rfl) (by kernel_rfl) (by kernel_rfl) (fun _ _ _ h => h) (.inl ⟨rfl, fun V hS => ?y0⟩) trivial ?_
  case y0 => go_simp
  go_simp
  refine wpAnyH_take (i := 35) (v := (.pointer (some ⟨b, 8, none⟩))) rfl (by kernel_rfl) (by kernel_rfl) (by kernel_rfl) (fun _ _ _ h => h) (.inl ⟨rfl, fun V hS => ?y0⟩) trivial ?_
  case y0 => go_simp
  go_simp
  refine wpAnyH_take (i := 37) (v := (.pointer (some ⟨b, 0, none⟩))) rfl (by kernel_rfl) (by kernel_rfl) (by kernel_rfl) (fun _ _ _ h => h) (.inl ⟨rfl, fun V hS => ?y0⟩) trivial ?_
  case y0 => go_simp
  go_simp
  refine wpAnyH_take (i := 38) (v := (.pointer (some ⟨b, 0, none⟩))) rfl (by kernel_rfl) (by kernel_rfl) (by kernel_rfl) (fun _ _ _ h => h) (.inl ⟨rfl, fun V hS => ?y0⟩) trivial ?_
  case y0 => go_simp
  go_simp
  refine wpAnyH_take (i := 39) (v := (.pointer (some ⟨b, 9, none⟩))) rfl (by kernel_rfl) (by kernel_rfl) (by kernel_rfl) (fun _ _ _ h => h) (.inl ⟨rfl, fun V hS => ?y0⟩) trivial ?_
  case y0 => go_simp
  go_simp
  refine wpAnyH_take (i := 41) (v := (.pointer (some ⟨b, 0, none⟩))) rfl (by kernel_rfl) (by kernel_rfl) (by kernel_rfl) (fun _ _ _ h => h) (.inl ⟨rfl, fun V hS => ?y0⟩) trivial ?_
  case y0 => go_simp
  go_simp
  refine wpAnyH_take (i := 42) (v := (.pointer (some ⟨b, 0, none⟩))) rfl (by kernel_rfl) (by kernel_rfl) (by kernel_rfl) (fun _ _ _ h => h) (.inl ⟨rfl, fun V hS => ?y0⟩) trivial ?_
  case y0 => go_simp
  go_simp
  refine wpAnyH_take (i := 43) (v := (.pointer (some ⟨b, 10, none⟩))) rfl (by kernel_rfl) (by kernel_rfl) (by kernel_rfl) (fun _ _ _ h => h) (.inl ⟨rfl, fun V hS => ?y0⟩) trivial ?_
  case y0 => go_simp
  go_simp
  refine wpAnyH_take (i := 45) (v := (.pointer (some ⟨b, 0, none⟩))) rfl (by kernel_rfl) (by kernel_rfl) (by kernel_rfl) (fun _ _ _ h => h) (.inl ⟨rfl, fun V hS => ?y0⟩) trivial ?_
  case y0 => go_simp
  go_simp
  refine wpAnyH_take (i := 46) (v := (.pointer (some ⟨b, 0, none⟩))) rfl (by kernel_rfl) (by kernel_rfl) (by kernel_rfl) (fun _ _ _ h => h) (.inl ⟨rfl, fun V hS => ?y0⟩) trivial ?_
  case y0 => go_simp
  go_simp
  refine wpAnyH_take (i := 47) (v := (.pointer (some ⟨b, 11, none⟩))) rfl (by kernel_rfl) (by kernel_rfl) (by kernel_rfl) (fun _ _ _ h => h) (.inl ⟨rfl, fun V hS => ?y0⟩) trivial ?_
  case y0 => go_simp
  go_simp
  refine wpAnyH_take (i := 49) (v := (.pointer (some ⟨b, 0, none⟩))) rfl (by kernel_rfl) (by kernel_rfl) (by kernel_rfl) (fun _ _ _ h => h) (.inl ⟨rfl, fun V hS => ?y0⟩) trivial ?_
  case y0 => go_simp
  go_simp
  refine wpAnyH_take (i := 50) (v := (.pointer (some ⟨b, 0, none⟩))) rfl (by kernel_rfl) (by kernel_rfl) (by kernel_rfl) (fun _ _ _ h => h) (.inl ⟨rfl, fun V hS => ?y0⟩) trivial ?_
  case y0 => go_simp
  go_simp
  refine wpAnyH_take (i := 51) (v := (.pointer (some ⟨b, 12, none⟩))) rfl (by kernel_rfl) (by kernel_rfl) (by kernel_rfl) (fun _ _ _ h => h) (.inl ⟨rfl, fun V hS => ?y0⟩) trivial ?_
  case y0 => go_simp
  go_simp
  refine wpAnyH_take (i := 53) (v := (.pointer (some ⟨b, 0, none⟩))) rfl (by kernel_rfl) (by kernel_rfl) (by kernel_rfl) (fun _ _ _ h => h) (.inl ⟨rfl, fun V hS => ?y0⟩) trivial ?_
  case y0 => go_simp
  go_simp
  refine wpAnyH_take (i := 54) (v := (.pointer (some ⟨b, 0, none⟩))) rfl (by kernel_rfl) (by kernel_rfl) (by kernel_rfl) (fun _ _ _ h => h) (.inl ⟨rfl, fun V hS => ?y0⟩) trivial ?_
  case y0 => go_simp
  go_simp
  refine wpAnyH_take (i := 55) (v := (.pointer (some ⟨b, 13, none⟩))) rfl (by kernel_rfl) (by kernel_rfl) (by kernel_rfl) (fun _ _ _ h => h) (.inl ⟨rfl, fun V hS => ?y0⟩) trivial ?_
  case y0 => go_simp
  go_simp
  refine wpAnyH_ready (rs := [0]) (by kernel_rfl) (by simp) (AllReadyH.cons rfl (fun J hJ => ?_) AllReadyH.nil)
  go_simp
  refine hJ.out _ _ trivial (fun _ => ?_)
  clear hJ J
  go_simp
  refine fill (mb := w.heap.size) (b := b) w (Nat.le_refl _) 2 ?hrd ?hlate ?hst ?hQ 14 _ [] _ rfl ?hls rfl (by simp) (by simp) ?hF ?hB
  case hrd =>
    intro k hk
    match k, hk with
    | 0, _ | 1, _ | 2, _ | 3, _ | 4, _ | 5, _ | 6, _ | 7, _ | 8, _ | 9, _ | 10, _ | 11, _ | 12, _ | 13, _ => exact ⟨_, rfl, by simp⟩
  case hlate =>
    refine ⟨_, _, rfl, rfl, ?_, ⟨57, .data⟩, by simp, rfl, rfl⟩
    intro k hk
    match k, hk with
    | 0, _ | 1, _ | 2, _ | 3, _ | 4, _ | 5, _ | 6, _ | 7, _ | 8, _ | 9, _ | 10, _ | 11, _ | 12, _ | 13, _ => exact ⟨⟨_, .data⟩, by simp, rfl, rfl⟩
  case hst =>
    intro k hk V K o hr hK
    match k, hk with
    | 0, _ | 1, _ | 2, _ | 3, _ | 4, _ | 5, _ | 6, _ | 7, _ | 8, _ | 9, _ | 10, _ | 11, _ | 12, _ | 13, _ => exact ins_op rfl rfl rfl rfl hr hK
  case hls => exact listed_iff (by kernel_rfl) (by kernel_rfl)
  case hF => exact ⟨#[], 0, by show (w.heap.push _)[w.heap.size]? = _; simp, rfl⟩
  case hB => exact bel_of_drew (bel_alloc _ _)
  case hQ =>
    intro V l lst g1 g2 g3 g4 h1 h2 h3 h4 h5
    rw [listed_last g1 g2 g3 g4]
    clear g1 g2 g3 g4 lst
    refine wpAnyH_take (i := 57) (v := (.map (some w.heap.size))) rfl (by kernel_rfl) (by kernel_rfl) (by kernel_rfl) (fun _ _ _ h => h) (.inl ⟨rfl, fun V hS => ?y0⟩) trivial ?_
    case y0 => go_simp
    go_simp
    refine wpAnyH_take (i := 58) (v := (.map (some w.heap.size))) rfl (by kernel_rfl) (by kernel_rfl) (by kernel_rfl) (fun _ _ _ h => h) (.inl ⟨rfl, fun V hS => ?y0⟩) trivial ?_
    case y0 => go_simp
    go_simp
    refine wpAnyH_done (by kernel_rfl) ?_ _
    go_wp2
    go_ret
    exact ⟨l, rfl, ⟨h1, h2, h3⟩, h4, h5⟩
end Go.Proofs.YtahfmgjchjjlmaaDoor.Fm
