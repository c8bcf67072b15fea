/- The deadlines of a connection: the program's connDeadlines and ConnDue, the reference's ConnDue. -/
import Derived.Test.YtbmfleakldhabaaDoorKn3
import Derived.Test.YtbmfleakldhabaaDoorDua
import Derived.Test.YtbmfleakldhabaaDoorCfg2
namespace Go.Proofs.YtbmfleakldhabaaDoor.Kn
open Go.RowKit Go.Deep Base Tick

/-- The deadlines that concern a connection: what is due, from when on, after which span. -/
def dlL (c k : Nat → Int) (t : Bool) : List (Int × Int × Int) :=
  if (Cf.okC c && okN k t) = true then (if k 1 = 1 then [(1, k 2, c 3), (2, k 3, c 4), (3, k 3, c 5)] else if k 1 = 3 ∧ t = false then [(4, k 3, c 6)] else []) else []
def dueL (now : Int) : List (Int × Int × Int) → Int
  | [] => 0
  | d :: r => if dueT d.2.1 d.2.2 now = true then d.1 else dueL now r

theorem dl_few (c k : Nat → Int) (t : Bool) : (dlL c k t).length ≤ 3 := by
  unfold dlL
  split <;> (try split) <;> (try split) <;> simp

/-- The deadlines in memory. -/
def DlV (A : Option Addr) (l : List (Int × Int × Int)) (w : World) : Prop :=
  0 < l.length → ∃ g, A = some ⟨g, 0, none⟩ ∧ ∀ i, i < l.length → w.cell? ⟨g, i * 3, none⟩ = some (.int .i64 (l.getD i (0, 0, 0)).1) ∧ w.cell? ⟨g, i * 3 + 1, none⟩ = some (.int .i64 (l.getD i (0, 0, 0)).2.1) ∧ w.cell? ⟨g, i * 3 + 2, none⟩ = some (.int .i64 (l.getD i (0, 0, 0)).2.2)
theorem DlV.below {A : Option Addr} {l : List (Int × Int × Int)} {w w' : World} (h : DlV A l w) (hb : Below w.heap.size w w') : DlV A l w' := fun hp => by
  obtain ⟨g, e, h1⟩ := h hp
  exact ⟨g, e, fun i hi => ⟨nkeep (h1 i hi).1 hb, nkeep (h1 i hi).2.1 hb, nkeep (h1 i hi).2.2 hb⟩⟩

/-- What connDeadlines hands back. -/
def DlEnd (l : List (Int × Int × Int)) (w : World) (e : Ending) (w' : World) : Prop := ∃ A, e = .returned (.slice A l.length l.length) ∧ DlV A l w' ∧ Below w.heap.size w w'

theorem dl_none {w w' : World} (h : Below w.heap.size w w') : DlEnd [] w (.returned (.slice none 0 0)) w' := ⟨none, rfl, fun h => absurd h (by simp), h⟩
theorem dl_three {w V : World} (x0 x1 x2 y0 y1 y2 z0 z1 z2 : Int) (T : TypeId) (h : Below w.heap.size w V) (hz : w.heap.size ≤ V.heap.size) : DlEnd [(x0, x1, x2), (y0, y1, y2), (z0, z1, z2)] w (.returned (.slice (some ⟨V.heap.size, 0, none⟩) 3 3)) (V.alloc (.cells #[.int .i64 x0, .int .i64 x1, .int .i64 x2, .int .i64 y0, .int .i64 y1, .int .i64 y2, .int .i64 z0, .int .i64 z1, .int .i64 z2] T)) := by
  have r := heap_alloc_new V (.cells #[.int .i64 x0, .int .i64 x1, .int .i64 x2, .int .i64 y0, .int .i64 y1, .int .i64 y2, .int .i64 z0, .int .i64 z1, .int .i64 z2] T)
  refine ⟨_, rfl, fun _ => ⟨_, rfl, fun i hi => ?_⟩, h.alloc hz _⟩
  have hc : i = 0 ∨ i = 1 ∨ i = 2 := by simp at hi; omega
  rcases hc with rfl | rfl | rfl
  · exact ⟨cell_of_row _ _ 0 _ _ (0, 0) r, cell_of_row _ _ 1 _ _ (0, 0) r, cell_of_row _ _ 2 _ _ (0, 0) r⟩
  · exact ⟨cell_of_row _ _ 3 _ _ (0, 0) r, cell_of_row _ _ 4 _ _ (0, 0) r, cell_of_row _ _ 5 _ _ (0, 0) r⟩
  · exact ⟨cell_of_row _ _ 6 _ _ (0, 0) r, cell_of_row _ _ 7 _ _ (0, 0) r, cell_of_row _ _ 8 _ _ (0, 0) r⟩
theorem dl_one {w V : World} (x0 x1 x2 : Int) (T : TypeId) (h : Below w.heap.size w V) (hz : w.heap.size ≤ V.heap.size) : DlEnd [(x0, x1, x2)] w (.returned (.slice (some ⟨V.heap.size, 0, none⟩) 1 1)) (V.alloc (.cells #[.int .i64 x0, .int .i64 x1, .int .i64 x2] T)) := by
  have r := heap_alloc_new V (.cells #[.int .i64 x0, .int .i64 x1, .int .i64 x2] T)
  refine ⟨_, rfl, fun _ => ⟨_, rfl, fun i hi => ?_⟩, h.alloc hz _⟩
  obtain rfl : i = 0 := by simp at hi; omega
  exact ⟨cell_of_row _ _ 0 _ _ (0, 0) r, cell_of_row _ _ 1 _ _ (0, 0) r, cell_of_row _ _ 2 _ _ (0, 0) r⟩

theorem dlEnd_to {c k : Nat → Int} {t : Bool} {l : List (Int × Int × Int)} {w w' : World} {e : Ending} (h : dlL c k t = l) (q : DlEnd l w e w') : DlEnd (dlL c k t) w e w' := h ▸ q

set_option maxRecDepth 100000 in
set_option maxHeartbeats 4000000 in
theorem deadlines_any (c k : Nat → Int) (t : Bool) (w : World) : Calls Tryd.prog 41 #[.agg #[.int .i64 (c 0), .int .i64 (c 1), .int .i64 (c 2), .int .i64 (c 3), .int .i64 (c 4), .int .i64 (c 5), .int .i64 (c 6), .int .i64 (c 7), .int .i64 (c 8), .int .i64 (c 9), .int .i64 (c 10), .int .i64 (c 11), .int .i64 (c 12), .int .i64 (c 13)], .agg #[.int .i64 (k 0), .int .i64 (k 1), .int .i64 (k 2), .int .i64 (k 3), .int .i64 (k 4), .bool t]] w (DlEnd (dlL c k t) w) := by
  have HD : Hid (dlL c k t = (if (Cf.okC c && okN k t) = true then (if k 1 = 1 then [(1, k 2, c 3), (2, k 3, c 4), (3, k 3, c 5)] else if k 1 = 3 ∧ t = false then [(4, k 3, c 6)] else []) else [])) := rfl
  have B : Hid (Below w.heap.size w ((w.alloc (.cells #[.int .i64 (c 0), .int .i64 (c 1), .int .i64 (c 2), .int .i64 (c 3), .int .i64 (c 4), .int .i64 (c 5), .int .i64 (c 6), .int .i64 (c 7), .int .i64 (c 8), .int .i64 (c 9), .int .i64 (c 10), .int .i64 (c 11), .int .i64 (c 12), .int .i64 (c 13)] 37)).alloc (.cells #[.int .i64 (k 0), .int .i64 (k 1), .int .i64 (k 2), .int .i64 (k 3), .int .i64 (k 4), .bool t] 28))) := Lib.hid (bel_trans (bel_alloc _ _) (bel_alloc _ _))
  have HC : Hid (((w.alloc (.cells #[.int .i64 (c 0), .int .i64 (c 1), .int .i64 (c 2), .int .i64 (c 3), .int .i64 (c 4), .int .i64 (c 5), .int .i64 (c 6), .int .i64 (c 7), .int .i64 (c 8), .int .i64 (c 9), .int .i64 (c 10), .int .i64 (c 11), .int .i64 (c 12), .int .i64 (c 13)] 37)).alloc (.cells #[.int .i64 (k 0), .int .i64 (k 1), .int .i64 (k 2), .int .i64 (k 3), .int .i64 (k 4), .bool t] 28)).heap[w.heap.size]? = some (.cells #[.int .i64 (c 0), .int .i64 (c 1), .int .i64 (c 2), .int .i64 (c 3), .int .i64 (c 4), .int .i64 (c 5), .int .i64 (c 6), .int .i64 (c 7), .int .i64 (c 8), .int .i64 (c 9), .int .i64 (c 10), .int .i64 (c 11), .int .i64 (c 12), .int .i64 (c 13)] 37 (0, 0))) := ((bel_alloc _ _).block _ (by simp)).trans (heap_alloc_new w _)
  have HK : Hid (KC (w.heap.size + 1) k t ((w.alloc (.cells #[.int .i64 (c 0), .int .i64 (c 1), .int .i64 (c 2), .int .i64 (c 3), .int .i64 (c 4), .int .i64 (c 5), .int .i64 (c 6), .int .i64 (c 7), .int .i64 (c 8), .int .i64 (c 9), .int .i64 (c 10), .int .i64 (c 11), .int .i64 (c 12), .int .i64 (c 13)] 37)).alloc (.cells #[.int .i64 (k 0), .int .i64 (k 1), .int .i64 (k 2), .int .i64 (k 3), .int .i64 (k 4), .bool t] 28))) := by
    have := KC.new k t (w.alloc (.cells #[.int .i64 (c 0), .int .i64 (c 1), .int .i64 (c 2), .int .i64 (c 3), .int .i64 (c 4), .int .i64 (c 5), .int .i64 (c 6), .int .i64 (c 7), .int .i64 (c 8), .int .i64 (c 9), .int .i64 (c 10), .int .i64 (c 11), .int .i64 (c 12), .int .i64 (c 13)] 37)) 28
    rw [World.size_alloc] at this
    exact this
  go_enter Tryd.func41, Tryd.ntmps41
  go_wp2_with fail
  obtain ⟨W0, hW0⟩ : ∃ W0, (w.alloc (.cells #[.int .i64 (c 0), .int .i64 (c 1), .int .i64 (c 2), .int .i64 (c 3), .int .i64 (c 4), .int .i64 (c 5), .int .i64 (c 6), .int .i64 (c 7), .int .i64 (c 8), .int .i64 (c 9), .int .i64 (c 10), .int .i64 (c 11), .int .i64 (c 12), .int .i64 (c 13)] 37)).alloc (.cells #[.int .i64 (k 0), .int .i64 (k 1), .int .i64 (k 2), .int .i64 (k 3), .int .i64 (k 4), .bool t] 28) = W0 := ⟨_, rfl⟩
  rw [hW0] at B HC HK ⊢
  clear hW0
  refine (Cf.implConfigOk_any c _).mono ?_
  rintro e w1 ⟨rfl, b1⟩
  have z0 : w.heap.size + 1 < W0.heap.size := HK.out.lt
  replace B := Lib.hid (bel_trans B.out b1)
  replace HC := Lib.hid ((b1.block _ (by omega)).trans HC.out)
  replace HK := Lib.hid (HK.out.below b1)
  clear b1 z0
  cases h0 : Cf.okC c
  · have Hr : Hid (dlL c k t = []) := by show _ = _; rw [HD.out, h0]; rfl
    clear h0
    go_wp2
    go_ret
    exact dlEnd_to Hr.out (dl_none B.out)
  have H0 := Lib.hid h0
  clear h0
  obtain ⟨c0, c1, c2, c3, c4, c5⟩ := HK.out
  go_wp2_with fail
  refine (implConnOk_any k t _).mono ?_
  rintro e w2 ⟨rfl, b2⟩
  have z1 : w.heap.size + 1 < w1.heap.size := HK.out.lt
  replace B := Lib.hid (bel_trans B.out b2)
  replace HC := Lib.hid ((b2.block _ (by omega)).trans HC.out)
  replace HK := Lib.hid (HK.out.below b2)
  clear b2 z1 c0 c1 c2 c3 c4 c5
  cases h1 : okN k t
  · have Hr : Hid (dlL c k t = []) := by show _ = _; rw [HD.out, H0.out, h1]; rfl
    clear h1
    go_wp2
    go_ret
    exact dlEnd_to Hr.out (dl_none B.out)
  have HD2 : Hid (dlL c k t = (if k 1 = 1 then [(1, k 2, c 3), (2, k 3, c 4), (3, k 3, c 5)] else if k 1 = 3 ∧ t = false then [(4, k 3, c 6)] else [])) := by show _ = _; rw [HD.out, H0.out, h1]; rfl
  clear h1
  have z2 : w.heap.size ≤ w2.heap.size := B.out.size
  obtain ⟨c0, c1, c2, c3, c4, c5⟩ := HK.out
  have x0 : w2.cell? ⟨w.heap.size, 0, none⟩ = some (.int .i64 (c 0)) := cell_of_row _ _ 0 _ _ (0, 0) HC.out
  have x1 : w2.cell? ⟨w.heap.size, 1, none⟩ = some (.int .i64 (c 1)) := cell_of_row _ _ 1 _ _ (0, 0) HC.out
  have x2 : w2.cell? ⟨w.heap.size, 2, none⟩ = some (.int .i64 (c 2)) := cell_of_row _ _ 2 _ _ (0, 0) HC.out
  have x3 : w2.cell? ⟨w.heap.size, 3, none⟩ = some (.int .i64 (c 3)) := cell_of_row _ _ 3 _ _ (0, 0) HC.out
  have x4 : w2.cell? ⟨w.heap.size, 4, none⟩ = some (.int .i64 (c 4)) := cell_of_row _ _ 4 _ _ (0, 0) HC.out
  have x5 : w2.cell? ⟨w.heap.size, 5, none⟩ = some (.int .i64 (c 5)) := cell_of_row _ _ 5 _ _ (0, 0) HC.out
  have x6 : w2.cell? ⟨w.heap.size, 6, none⟩ = some (.int .i64 (c 6)) := cell_of_row _ _ 6 _ _ (0, 0) HC.out
  have x7 : w2.cell? ⟨w.heap.size, 7, none⟩ = some (.int .i64 (c 7)) := cell_of_row _ _ 7 _ _ (0, 0) HC.out
  have x8 : w2.cell? ⟨w.heap.size, 8, none⟩ = some (.int .i64 (c 8)) := cell_of_row _ _ 8 _ _ (0, 0) HC.out
  have x9 : w2.cell? ⟨w.heap.size, 9, none⟩ = some (.int .i64 (c 9)) := cell_of_row _ _ 9 _ _ (0, 0) HC.out
  have x10 : w2.cell? ⟨w.heap.size, 10, none⟩ = some (.int .i64 (c 10)) := cell_of_row _ _ 10 _ _ (0, 0) HC.out
  have x11 : w2.cell? ⟨w.heap.size, 11, none⟩ = some (.int .i64 (c 11)) := cell_of_row _ _ 11 _ _ (0, 0) HC.out
  have x12 : w2.cell? ⟨w.heap.size, 12, none⟩ = some (.int .i64 (c 12)) := cell_of_row _ _ 12 _ _ (0, 0) HC.out
  have x13 : w2.cell? ⟨w.heap.size, 13, none⟩ = some (.int .i64 (c 13)) := cell_of_row _ _ 13 _ _ (0, 0) HC.out
  by_cases h2 : k 1 = 1
  · have Hr : Hid (dlL c k t = [(1, k 2, c 3), (2, k 3, c 4), (3, k 3, c 5)]) := by show _ = _; rw [HD2.out, if_pos h2]
    have h2b : (k 1 == 1) = true := by simpa using h2
    clear h2
    go_wp2
    go_ret
    exact dlEnd_to Hr.out (dl_three 1 (k 2) (c 3) 2 (k 3) (c 4) 3 (k 3) (c 5) _ B.out z2)
  have h2b : (k 1 == 1) = false := by simpa using h2
  by_cases h3 : k 1 = 3
  · have h3b : (k 1 == 3) = true := by simpa using h3
    cases t
    · have Hr : Hid (dlL c k false = [(4, k 3, c 6)]) := by show _ = _; rw [HD2.out, if_neg h2, if_pos ⟨h3, rfl⟩]
      clear h2 h3
      go_wp2
      go_ret
      exact dlEnd_to Hr.out (dl_one 4 (k 3) (c 6) _ B.out z2)
    · have Hr : Hid (dlL c k true = []) := by show _ = _; rw [HD2.out, if_neg h2, if_neg (fun h => by cases h.2)]
      clear h2 h3
      go_wp2
      go_ret
      exact dlEnd_to Hr.out (dl_none B.out)
  · have h3b : (k 1 == 3) = false := by simpa using h3
    have Hr : Hid (dlL c k t = []) := by show _ = _; rw [HD2.out, if_neg h2, if_neg (fun h => h3 h.1)]
    clear h2 h3
    go_wp2
    go_ret
    exact dlEnd_to Hr.out (dl_none B.out)
end Go.Proofs.YtbmfleakldhabaaDoor.Kn
