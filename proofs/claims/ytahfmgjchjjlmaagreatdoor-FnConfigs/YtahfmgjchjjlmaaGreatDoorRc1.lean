/- The program's readConfig. -/
import Derived.Test.YtahfmgjchjjlmaaGreatDoorPm1
namespace Go.Proofs.YtahfmgjchjjlmaaGreatDoor.Fm
open Go.RowKit Go.Deep Base Cf Ct Num Parts

/-- A package's error variable: a pointer to an errors.errorString. -/
def Evp (w : World) (n : String) : Prop := ∃ p, w.var? Tryz.prog n = some #[.iface 141 (.pointer (some p))]

theorem gLong : Tryz.prog.globalNamed "loop.example/g00722/impl.errConfigLong" = some 0 := by kernel_rfl
theorem gInv : Tryz.prog.globalNamed "loop.example/g00722/impl.errConfigInvalid" = some 1 := by kernel_rfl

theorem Evp.below {w w' : World} {n : String} {g : Nat} (h : Evp w n) (hg : Tryz.prog.globalNamed n = some g) (hb : Below w.heap.size w w') : Evp w' n := by
  obtain ⟨p, hv⟩ := h
  have hc := World.var?_cell hg hv 0
  have hlt : g < w.heap.size := World.block_lt_of_cell? _ _ (by simpa using hc)
  exact ⟨p, var?_below hb hg hlt hv⟩

theorem st14_other {W V : World} {b k : Nat} (h : k ≠ b) (d : Nat → Int) (hV : ((((((((((((((W.setCell ⟨b, 0, none⟩ (.int .i64 (d 0))).setCell ⟨b, 1, none⟩ (.int .i64 (d 1))).setCell ⟨b, 2, none⟩ (.int .i64 (d 2))).setCell ⟨b, 3, none⟩ (.int .i64 (d 3))).setCell ⟨b, 4, none⟩ (.int .i64 (d 4))).setCell ⟨b, 5, none⟩ (.int .i64 (d 5))).setCell ⟨b, 6, none⟩ (.int .i64 (d 6))).setCell ⟨b, 7, none⟩ (.int .i64 (d 7))).setCell ⟨b, 8, none⟩ (.int .i64 (d 8))).setCell ⟨b, 9, none⟩ (.int .i64 (d 9))).setCell ⟨b, 10, none⟩ (.int .i64 (d 10))).setCell ⟨b, 11, none⟩ (.int .i64 (d 11))).setCell ⟨b, 12, none⟩ (.int .i64 (d 12))).setCell ⟨b, 13, none⟩ (.int .i64 (d 13))) = V) : V.heap[k]? = W.heap[k]? := by
  subst hV
  iterate 14 rw [heap_setCell_other _ _ _ _ h]

theorem st14_row {W V : World} {b : Nat} {c : Nat → Int} {t : TypeId} (h : W.heap[b]? = some (.cells #[.int .i64 (c 0), .int .i64 (c 1), .int .i64 (c 2), .int .i64 (c 3), .int .i64 (c 4), .int .i64 (c 5), .int .i64 (c 6), .int .i64 (c 7), .int .i64 (c 8), .int .i64 (c 9), .int .i64 (c 10), .int .i64 (c 11), .int .i64 (c 12), .int .i64 (c 13)] t (0, 0))) (d : Nat → Int) (hV : ((((((((((((((W.setCell ⟨b, 0, none⟩ (.int .i64 (d 0))).setCell ⟨b, 1, none⟩ (.int .i64 (d 1))).setCell ⟨b, 2, none⟩ (.int .i64 (d 2))).setCell ⟨b, 3, none⟩ (.int .i64 (d 3))).setCell ⟨b, 4, none⟩ (.int .i64 (d 4))).setCell ⟨b, 5, none⟩ (.int .i64 (d 5))).setCell ⟨b, 6, none⟩ (.int .i64 (d 6))).setCell ⟨b, 7, none⟩ (.int .i64 (d 7))).setCell ⟨b, 8, none⟩ (.int .i64 (d 8))).setCell ⟨b, 9, none⟩ (.int .i64 (d 9))).setCell ⟨b, 10, none⟩ (.int .i64 (d 10))).setCell ⟨b, 11, none⟩ (.int .i64 (d 11))).setCell ⟨b, 12, none⟩ (.int .i64 (d 12))).setCell ⟨b, 13, none⟩ (.int .i64 (d 13))) = V) : V.heap[b]? = some (.cells #[.int .i64 (d 0), .int .i64 (d 1), .int .i64 (d 2), .int .i64 (d 3), .int .i64 (d 4), .int .i64 (d 5), .int .i64 (d 6), .int .i64 (d 7), .int .i64 (d 8), .int .i64 (d 9), .int .i64 (d 10), .int .i64 (d 11), .int .i64 (d 12), .int .i64 (d 13)] t (0, 0)) := by
  subst hV
  have h0 := (heap_set h 0 (.int .i64 (d 0))).trans (show _ = some (.cells #[.int .i64 (d 0), .int .i64 (c 1), .int .i64 (c 2), .int .i64 (c 3), .int .i64 (c 4), .int .i64 (c 5), .int .i64 (c 6), .int .i64 (c 7), .int .i64 (c 8), .int .i64 (c 9), .int .i64 (c 10), .int .i64 (c 11), .int .i64 (c 12), .int .i64 (c 13)] t (0, 0)) from rfl)
  have h1 := (heap_set h0 1 (.int .i64 (d 1))).trans (show _ = some (.cells #[.int .i64 (d 0), .int .i64 (d 1), .int .i64 (c 2), .int .i64 (c 3), .int .i64 (c 4), .int .i64 (c 5), .int .i64 (c 6), .int .i64 (c 7), .int .i64 (c 8), .int .i64 (c 9), .int .i64 (c 10), .int .i64 (c 11), .int .i64 (c 12), .int .i64 (c 13)] t (0, 0)) from rfl)
  have h2 := (heap_set h1 2 (.int .i64 (d 2))).trans (show _ = some (.cells #[.int .i64 (d 0), .int .i64 (d 1), .int .i64 (d 2), .int .i64 (c 3), .int .i64 (c 4), .int .i64 (c 5), .int .i64 (c 6), .int .i64 (c 7), .int .i64 (c 8), .int .i64 (c 9), .int .i64 (c 10), .int .i64 (c 11), .int .i64 (c 12), .int .i64 (c 13)] t (0, 0)) from rfl)
  have h3 := (heap_set h2 3 (.int .i64 (d 3))).trans (show _ = some (.cells #[.int .i64 (d 0), .int .i64 (d 1), .int .i64 (d 2), .int .i64 (d 3), .int .i64 (c 4), .int .i64 (c 5), .int .i64 (c 6), .int .i64 (c 7), .int .i64 (c 8), .int .i64 (c 9), .int .i64 (c 10), .int .i64 (c 11), .int .i64 (c 12), .int .i64 (c 13)] t (0, 0)) from rfl)
  have h4 := (heap_set h3 4 (.int .i64 (d 4))).trans (show _ = some (.cells #[.int .i64 (d 0), .int .i64 (d 1), .int .i64 (d 2), .int .i64 (d 3), .int .i64 (d 4), .int .i64 (c 5), .int .i64 (c 6), .int .i64 (c 7), .int .i64 (c 8), .int .i64 (c 9), .int .i64 (c 10), .int .i64 (c 11), .int .i64 (c 12), .int .i64 (c 13)] t (0, 0)) from rfl)
  have h5 := (heap_set h4 5 (.int .i64 (d 5))).trans (show _ = some (.cells #[.int .i64 (d 0), .int .i64 (d 1), .int .i64 (d 2), .int .i64 (d 3), .int .i64 (d 4), .int .i64 (d 5), .int .i64 (c 6), .int .i64 (c 7), .int .i64 (c 8), .int .i64 (c 9), .int .i64 (c 10), .int .i64 (c 11), .int .i64 (c 12), .int .i64 (c 13)] t (0, 0)) from rfl)
  have h6 := (heap_set h5 6 (.int .i64 (d 6))).trans (show _ = some (.cells #[.int .i64 (d 0), .int .i64 (d 1), .int .i64 (d 2), .int .i64 (d 3), .int .i64 (d 4), .int .i64 (d 5), .int .i64 (d 6), .int .i64 (c 7), .int .i64 (c 8), .int .i64 (c 9), .int .i64 (c 10), .int .i64 (c 11), .int .i64 (c 12), .int .i64 (c 13)] t (0, 0)) from rfl)
  have h7 := (heap_set h6 7 (.int .i64 (d 7))).trans (show _ = some (.cells #[.int .i64 (d 0), .int .i64 (d 1), .int .i64 (d 2), .int .i64 (d 3), .int .i64 (d 4), .int .i64 (d 5), .int .i64 (d 6), .int .i64 (d 7), .int .i64 (c 8), .int .i64 (c 9), .int .i64 (c 10), .int .i64 (c 11), .int .i64 (c 12), .int .i64 (c 13)] t (0, 0)) from rfl)
  have h8 := (heap_set h7 8 (.int .i64 (d 8))).trans (show _ = some (.cells #[.int .i64 (d 0), .int .i64 (d 1), .int .i64 (d 2), .int .i64 (d 3), .int .i64 (d 4), .int .i64 (d 5), .int .i64 (d 6), .int .i64 (d 7), .int .i64 (d 8), .int .i64 (c 9), .int .i64 (c 10), .int .i64 (c 11), .int .i64 (c 12), .int .i64 (c 13)] t (0, 0)) from rfl)
  have h9 := (heap_set h8 9 (.int .i64 (d 9))).trans (show _ = some (.cells #[.int .i64 (d 0), .int .i64 (d 1), .int .i64 (d 2), .int .i64 (d 3), .int .i64 (d 4), .int .i64 (d 5), .int .i64 (d 6), .int .i64 (d 7), .int .i64 (d 8), .int .i64 (d 9), .int .i64 (c 10), .int .i64 (c 11), .int .i64 (c 12), .int .i64 (c 13)] t (0, 0)) from rfl)
  have h10 := (heap_set h9 10 (.int .i64 (d 10))).trans (show _ = some (.cells #[.int .i64 (d 0), .int .i64 (d 1), .int .i64 (d 2), .int .i64 (d 3), .int .i64 (d 4), .int .i64 (d 5), .int .i64 (d 6), .int .i64 (d 7), .int .i64 (d 8), .int .i64 (d 9), .int .i64 (d 10), .int .i64 (c 11), .int .i64 (c 12), .int .i64 (c 13)] t (0, 0)) from rfl)
  have h11 := (heap_set h10 11 (.int .i64 (d 11))).trans (show _ = some (.cells #[.int .i64 (d 0), .int .i64 (d 1), .int .i64 (d 2), .int .i64 (d 3), .int .i64 (d 4), .int .i64 (d 5), .int .i64 (d 6), .int .i64 (d 7), .int .i64 (d 8), .int .i64 (d 9), .int .i64 (d 10), .int .i64 (d 11), .int .i64 (c 12), .int .i64 (c 13)] t (0, 0)) from rfl)
  have h12 := (heap_set h11 12 (.int .i64 (d 12))).trans (show _ = some (.cells #[.int .i64 (d 0), .int .i64 (d 1), .int .i64 (d 2), .int .i64 (d 3), .int .i64 (d 4), .int .i64 (d 5), .int .i64 (d 6), .int .i64 (d 7), .int .i64 (d 8), .int .i64 (d 9), .int .i64 (d 10), .int .i64 (d 11), .int .i64 (d 12), .int .i64 (c 13)] t (0, 0)) from rfl)
  have h13 := (heap_set h12 13 (.int .i64 (d 13))).trans (show _ = some (.cells #[.int .i64 (d 0), .int .i64 (d 1), .int .i64 (d 2), .int .i64 (d 3), .int .i64 (d 4), .int .i64 (d 5), .int .i64 (d 6), .int .i64 (d 7), .int .i64 (d 8), .int .i64 (d 9), .int .i64 (d 10), .int .i64 (d 11), .int .i64 (d 12), .int .i64 (d 13)] t (0, 0)) from rfl)
  exact h13

theorem st14_below {W V w : World} {b : Nat} (hb : Below w.heap.size w W) (h : w.heap.size ≤ b) (d : Nat → Int) (hV : ((((((((((((((W.setCell ⟨b, 0, none⟩ (.int .i64 (d 0))).setCell ⟨b, 1, none⟩ (.int .i64 (d 1))).setCell ⟨b, 2, none⟩ (.int .i64 (d 2))).setCell ⟨b, 3, none⟩ (.int .i64 (d 3))).setCell ⟨b, 4, none⟩ (.int .i64 (d 4))).setCell ⟨b, 5, none⟩ (.int .i64 (d 5))).setCell ⟨b, 6, none⟩ (.int .i64 (d 6))).setCell ⟨b, 7, none⟩ (.int .i64 (d 7))).setCell ⟨b, 8, none⟩ (.int .i64 (d 8))).setCell ⟨b, 9, none⟩ (.int .i64 (d 9))).setCell ⟨b, 10, none⟩ (.int .i64 (d 10))).setCell ⟨b, 11, none⟩ (.int .i64 (d 11))).setCell ⟨b, 12, none⟩ (.int .i64 (d 12))).setCell ⟨b, 13, none⟩ (.int .i64 (d 13))) = V) : Below w.heap.size w V := by
  subst hV
  iterate 14 refine Below.setCell ?_ (by show w.heap.size ≤ b; exact h) _
  exact hb

def LongEnd (w : World) (e : Ending) (w' : World) : Prop := ∃ p, e = .returned (.tuple #[.agg #[.int .i64 (zero14 0), .int .i64 (zero14 1), .int .i64 (zero14 2), .int .i64 (zero14 3), .int .i64 (zero14 4), .int .i64 (zero14 5), .int .i64 (zero14 6), .int .i64 (zero14 7), .int .i64 (zero14 8), .int .i64 (zero14 9), .int .i64 (zero14 10), .int .i64 (zero14 11), .int .i64 (zero14 12), .int .i64 (zero14 13)], .iface 141 (.pointer (some p))]) ∧ Below w.heap.size w w'

set_option maxRecDepth 100000 in
set_option maxHeartbeats 2000000 in
theorem readConfig_long (s : ByteArray) (w : World) (hs : s.size ≤ 1048576) (hl : 1000 < s.size) (hv : Evp w "loop.example/g00722/impl.errConfigLong") : Calls Tryz.prog 19 #[.string s] w (LongEnd w) := by
  obtain ⟨p, hv⟩ := hv
  have hc := World.var?_cell gLong hv 0
  have hc1 : w.cell? ⟨0, 0, none⟩ = some (.iface 141 (.pointer (some p))) := by simpa using hc
  have hlt : 0 < w.heap.size := World.block_lt_of_cell? _ _ hc1
  have hli : (1000 : Int) < (s.size : Int) := by omega
  clear hv hc
  go_enter Tryz.func19, Tryz.ntmps19
  go_wp2_with fail
  have hK := heap_alloc_new w (.cells #[.int .i64 (zero14 0), .int .i64 (zero14 1), .int .i64 (zero14 2), .int .i64 (zero14 3), .int .i64 (zero14 4), .int .i64 (zero14 5), .int .i64 (zero14 6), .int .i64 (zero14 7), .int .i64 (zero14 8), .int .i64 (zero14 9), .int .i64 (zero14 10), .int .i64 (zero14 11), .int .i64 (zero14 12), .int .i64 (zero14 13)] 25)
  have hG : (w.alloc (.cells #[.int .i64 (zero14 0), .int .i64 (zero14 1), .int .i64 (zero14 2), .int .i64 (zero14 3), .int .i64 (zero14 4), .int .i64 (zero14 5), .int .i64 (zero14 6), .int .i64 (zero14 7), .int .i64 (zero14 8), .int .i64 (zero14 9), .int .i64 (zero14 10), .int .i64 (zero14 11), .int .i64 (zero14 12), .int .i64 (zero14 13)] 25)).cell? ⟨0, 0, none⟩ = some (.iface 141 (.pointer (some p))) := (World.cell?_alloc_lt _ _ ⟨0, 0, none⟩ hlt).trans hc1
  have hB := bel_alloc w (.cells #[.int .i64 (zero14 0), .int .i64 (zero14 1), .int .i64 (zero14 2), .int .i64 (zero14 3), .int .i64 (zero14 4), .int .i64 (zero14 5), .int .i64 (zero14 6), .int .i64 (zero14 7), .int .i64 (zero14 8), .int .i64 (zero14 9), .int .i64 (zero14 10), .int .i64 (zero14 11), .int .i64 (zero14 12), .int .i64 (zero14 13)] 25)
  obtain ⟨rb, hrb⟩ : ∃ rb, w.heap.size = rb := ⟨_, rfl⟩
  obtain ⟨W, hW⟩ : ∃ W, w.alloc (.cells #[.int .i64 0, .int .i64 0, .int .i64 0, .int .i64 0, .int .i64 0, .int .i64 0, .int .i64 0, .int .i64 0, .int .i64 0, .int .i64 0, .int .i64 0, .int .i64 0, .int .i64 0, .int .i64 0] 25) = W := ⟨_, rfl⟩
  change w.alloc (.cells #[.int .i64 (zero14 0), .int .i64 (zero14 1), .int .i64 (zero14 2), .int .i64 (zero14 3), .int .i64 (zero14 4), .int .i64 (zero14 5), .int .i64 (zero14 6), .int .i64 (zero14 7), .int .i64 (zero14 8), .int .i64 (zero14 9), .int .i64 (zero14 10), .int .i64 (zero14 11), .int .i64 (zero14 12), .int .i64 (zero14 13)] 25) = W at hW
  rw [hW] at hK hG hB
  change w.alloc (.cells #[.int .i64 0, .int .i64 0, .int .i64 0, .int .i64 0, .int .i64 0, .int .i64 0, .int .i64 0, .int .i64 0, .int .i64 0, .int .i64 0, .int .i64 0, .int .i64 0, .int .i64 0, .int .i64 0] 25) = W at hW
  rw [hW]
  rw [hrb] at hK ⊢
  clear hW hc1
  have HG := Lib.hid hG
  have HB := Lib.hid hB
  have HR := Lib.hid hrb
  have HK := Lib.hid hK
  have hne : 0 ≠ rb := by omega
  have HN := Lib.hid hne
  clear hB hK hrb hli hG hlt hne
  have HS0 : Hid (W.drew.cell? ⟨0, 0, none⟩ = some (.iface 141 (.pointer (some p)))) := HG.out
  refine wp_region_held_drew (S := fun V => V.cell? ⟨0, 0, none⟩ = some (.iface 141 (.pointer (some p)))) (by kernel_rfl) HS0.out (fun _ => ?_)
  refine wpAnyH_take (i := 0) (v := (.agg #[.int .i64 0, .int .i64 0, .int .i64 0, .int .i64 0, .int .i64 0, .int .i64 0, .int .i64 0, .int .i64 0, .int .i64 0, .int .i64 0, .int .i64 0, .int .i64 0, .int .i64 0, .int .i64 0])) rfl (by kernel_rfl) (by kernel_rfl) (by kernel_rfl) (fun _ _ _ h => h) (.inl ⟨rfl, fun V hS => ?y0⟩) (HS0).out ?_
  case y0 => go_simp
  go_simp
  refine wpAnyH_take (i := 1) (v := (.iface 141 (.pointer (some p)))) rfl (by kernel_rfl) (by kernel_rfl) (by kernel_rfl) (fun _ _ _ h => h) (.inl ⟨rfl, fun V hS => ?y0⟩) (HS0).out ?_
  case y0 => go_simp
  go_simp
  have K0 : Hid (W.drew.heap[rb]? = some (.cells #[.int .i64 (zero14 0), .int .i64 (zero14 1), .int .i64 (zero14 2), .int .i64 (zero14 3), .int .i64 (zero14 4), .int .i64 (zero14 5), .int .i64 (zero14 6), .int .i64 (zero14 7), .int .i64 (zero14 8), .int .i64 (zero14 9), .int .i64 (zero14 10), .int .i64 (zero14 11), .int .i64 (zero14 12), .int .i64 (zero14 13)] 25 (0, 0))) := HK.out
  have B0 : Hid (Below w.heap.size w W.drew) := HB.out.drew
  obtain ⟨X, hX⟩ : ∃ X, W.drew = X := ⟨_, rfl⟩
  rw [hX] at K0 B0 HS0 ⊢
  clear hX HK HB HG
  have y0 : X.cell? ⟨rb, 0, none⟩ = some (.int .i64 (zero14 0)) := cell_of_row _ _ 0 _ _ (0, 0) K0.out
  have y1 : X.cell? ⟨rb, 1, none⟩ = some (.int .i64 (zero14 1)) := cell_of_row _ _ 1 _ _ (0, 0) K0.out
  have y2 : X.cell? ⟨rb, 2, none⟩ = some (.int .i64 (zero14 2)) := cell_of_row _ _ 2 _ _ (0, 0) K0.out
  have y3 : X.cell? ⟨rb, 3, none⟩ = some (.int .i64 (zero14 3)) := cell_of_row _ _ 3 _ _ (0, 0) K0.out
  have y4 : X.cell? ⟨rb, 4, none⟩ = some (.int .i64 (zero14 4)) := cell_of_row _ _ 4 _ _ (0, 0) K0.out
  have y5 : X.cell? ⟨rb, 5, none⟩ = some (.int .i64 (zero14 5)) := cell_of_row _ _ 5 _ _ (0, 0) K0.out
  have y6 : X.cell? ⟨rb, 6, none⟩ = some (.int .i64 (zero14 6)) := cell_of_row _ _ 6 _ _ (0, 0) K0.out
  have y7 : X.cell? ⟨rb, 7, none⟩ = some (.int .i64 (zero14 7)) := cell_of_row _ _ 7 _ _ (0, 0) K0.out
  have y8 : X.cell? ⟨rb, 8, none⟩ = some (.int .i64 (zero14 8)) := cell_of_row _ _ 8 _ _ (0, 0) K0.out
  have y9 : X.cell? ⟨rb, 9, none⟩ = some (.int .i64 (zero14 9)) := cell_of_row _ _ 9 _ _ (0, 0) K0.out
  have y10 : X.cell? ⟨rb, 10, none⟩ = some (.int .i64 (zero14 10)) := cell_of_row _ _ 10 _ _ (0, 0) K0.out
  have y11 : X.cell? ⟨rb, 11, none⟩ = some (.int .i64 (zero14 11)) := cell_of_row _ _ 11 _ _ (0, 0) K0.out
  have y12 : X.cell? ⟨rb, 12, none⟩ = some (.int .i64 (zero14 12)) := cell_of_row _ _ 12 _ _ (0, 0) K0.out
  have y13 : X.cell? ⟨rb, 13, none⟩ = some (.int .i64 (zero14 13)) := cell_of_row _ _ 13 _ _ (0, 0) K0.out
  have yf : ∀ j, X.frozen? ⟨rb, j, none⟩ = false := fun j => frozen_of_row _ _ j _ _ K0.out
  refine wpAnyH_ready (rs := [2]) (by kernel_rfl) (by simp) (AllReadyH.cons rfl (fun J hJ => ?_) AllReadyH.nil)
  go_simp
  obtain ⟨V, hV⟩ : ∃ V, ((((((((((((((X.setCell ⟨rb, 0, none⟩ (.int .i64 0)).setCell ⟨rb, 1, none⟩ (.int .i64 0)).setCell ⟨rb, 2, none⟩ (.int .i64 0)).setCell ⟨rb, 3, none⟩ (.int .i64 0)).setCell ⟨rb, 4, none⟩ (.int .i64 0)).setCell ⟨rb, 5, none⟩ (.int .i64 0)).setCell ⟨rb, 6, none⟩ (.int .i64 0)).setCell ⟨rb, 7, none⟩ (.int .i64 0)).setCell ⟨rb, 8, none⟩ (.int .i64 0)).setCell ⟨rb, 9, none⟩ (.int .i64 0)).setCell ⟨rb, 10, none⟩ (.int .i64 0)).setCell ⟨rb, 11, none⟩ (.int .i64 0)).setCell ⟨rb, 12, none⟩ (.int .i64 0)).setCell ⟨rb, 13, none⟩ (.int .i64 0)) = V := ⟨_, rfl⟩
  rw [hV]
  have hV2 : ((((((((((((((X.setCell ⟨rb, 0, none⟩ (.int .i64 (zero14 0))).setCell ⟨rb, 1, none⟩ (.int .i64 (zero14 1))).setCell ⟨rb, 2, none⟩ (.int .i64 (zero14 2))).setCell ⟨rb, 3, none⟩ (.int .i64 (zero14 3))).setCell ⟨rb, 4, none⟩ (.int .i64 (zero14 4))).setCell ⟨rb, 5, none⟩ (.int .i64 (zero14 5))).setCell ⟨rb, 6, none⟩ (.int .i64 (zero14 6))).setCell ⟨rb, 7, none⟩ (.int .i64 (zero14 7))).setCell ⟨rb, 8, none⟩ (.int .i64 (zero14 8))).setCell ⟨rb, 9, none⟩ (.int .i64 (zero14 9))).setCell ⟨rb, 10, none⟩ (.int .i64 (zero14 10))).setCell ⟨rb, 11, none⟩ (.int .i64 (zero14 11))).setCell ⟨rb, 12, none⟩ (.int .i64 (zero14 12))).setCell ⟨rb, 13, none⟩ (.int .i64 (zero14 13))) = V := hV
  have h0 := st14_other (k := 0) HN.out zero14 hV2
  have HS1 : Hid (V.cell? ⟨0, 0, none⟩ = some (.iface 141 (.pointer (some p)))) := (World.cell?_of_block (a := ⟨0, 0, none⟩) h0).trans HS0.out
  have B1 := Lib.hid (st14_below B0.out (by have := HR.out; omega) zero14 hV2)
  have K1 := Lib.hid (st14_row K0.out zero14 hV2)
  clear h0
  clear hV hV2 K0 B0 HS0
  refine hJ.out _ _ HS1.out (fun _ => ?_)
  clear hJ J y0 y1 y2 y3 y4 y5 y6 y7 y8 y9 y10 y11 y12 y13 yf
  go_simp
  refine wpAnyH_take (i := 3) (v := (.iface 141 (.pointer (some p)))) rfl (by kernel_rfl) (by kernel_rfl) (by kernel_rfl) (fun _ _ _ h => h) (.inl ⟨rfl, fun V hS => ?y0⟩) (HS1).out ?_
  case y0 => go_simp
  go_simp
  refine wpAnyH_done (by kernel_rfl) ?_ _
  have y0 : V.cell? ⟨rb, 0, none⟩ = some (.int .i64 (zero14 0)) := cell_of_row _ _ 0 _ _ (0, 0) K1.out
  have y1 : V.cell? ⟨rb, 1, none⟩ = some (.int .i64 (zero14 1)) := cell_of_row _ _ 1 _ _ (0, 0) K1.out
  have y2 : V.cell? ⟨rb, 2, none⟩ = some (.int .i64 (zero14 2)) := cell_of_row _ _ 2 _ _ (0, 0) K1.out
  have y3 : V.cell? ⟨rb, 3, none⟩ = some (.int .i64 (zero14 3)) := cell_of_row _ _ 3 _ _ (0, 0) K1.out
  have y4 : V.cell? ⟨rb, 4, none⟩ = some (.int .i64 (zero14 4)) := cell_of_row _ _ 4 _ _ (0, 0) K1.out
  have y5 : V.cell? ⟨rb, 5, none⟩ = some (.int .i64 (zero14 5)) := cell_of_row _ _ 5 _ _ (0, 0) K1.out
  have y6 : V.cell? ⟨rb, 6, none⟩ = some (.int .i64 (zero14 6)) := cell_of_row _ _ 6 _ _ (0, 0) K1.out
  have y7 : V.cell? ⟨rb, 7, none⟩ = some (.int .i64 (zero14 7)) := cell_of_row _ _ 7 _ _ (0, 0) K1.out
  have y8 : V.cell? ⟨rb, 8, none⟩ = some (.int .i64 (zero14 8)) := cell_of_row _ _ 8 _ _ (0, 0) K1.out
  have y9 : V.cell? ⟨rb, 9, none⟩ = some (.int .i64 (zero14 9)) := cell_of_row _ _ 9 _ _ (0, 0) K1.out
  have y10 : V.cell? ⟨rb, 10, none⟩ = some (.int .i64 (zero14 10)) := cell_of_row _ _ 10 _ _ (0, 0) K1.out
  have y11 : V.cell? ⟨rb, 11, none⟩ = some (.int .i64 (zero14 11)) := cell_of_row _ _ 11 _ _ (0, 0) K1.out
  have y12 : V.cell? ⟨rb, 12, none⟩ = some (.int .i64 (zero14 12)) := cell_of_row _ _ 12 _ _ (0, 0) K1.out
  have y13 : V.cell? ⟨rb, 13, none⟩ = some (.int .i64 (zero14 13)) := cell_of_row _ _ 13 _ _ (0, 0) K1.out
  go_wp2
  exact bodyPost_ret (v := .tuple #[.agg #[.int .i64 (zero14 0), .int .i64 (zero14 1), .int .i64 (zero14 2), .int .i64 (zero14 3), .int .i64 (zero14 4), .int .i64 (zero14 5), .int .i64 (zero14 6), .int .i64 (zero14 7), .int .i64 (zero14 8), .int .i64 (zero14 9), .int .i64 (zero14 10), .int .i64 (zero14 11), .int .i64 (zero14 12), .int .i64 (zero14 13)], .iface 141 (.pointer (some p))]) (by simp [results, Tryz.results19, go_sem, y0, y1, y2, y3, y4, y5, y6, y7, y8, y9, y10, y11, y12, y13]) rfl ⟨p, rfl, B1.out⟩
end Go.Proofs.YtahfmgjchjjlmaaGreatDoor.Fm
