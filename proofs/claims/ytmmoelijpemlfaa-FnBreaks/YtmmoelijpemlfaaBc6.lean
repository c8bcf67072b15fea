/- The reference's copy of a breaker. -/
import Derived.Test.YtmmoelijpemlfaaBc5
namespace Go.Proofs.Ytmmoelijpemlfaa.Bk
open Go.RowKit Go.Deep Base Rw Tick

theorem bkeep {w w' : World} {b o : Nat} {v : Value} (h : w.cell? ⟨b, o, none⟩ = some v) (hb : Below w.heap.size w w') : w'.cell? ⟨b, o, none⟩ = some v := (hb.cell (World.block_lt_of_cell? _ _ h)).trans h

set_option maxRecDepth 100000 in
set_option maxHeartbeats 1000000 in
theorem copyB_any (A : Option Addr) (n cap : Nat) (s u : Int) (zs : List Int) (w : World) (hn : zs.length = n) (hm : n ≤ 1048576) (h : Ints w A zs) :
    Calls Try.prog 58 #[.agg #[.int .i64 s, .slice A n cap, .int .i64 u]] w (NewB w s zs u) := by
  have Hn := Lib.hid hn
  have HI := Lib.hid h
  clear h hn
  have ha : ∀ o o', Below w.heap.size w ((w.alloc o).alloc o') := fun o o' => ((Below.refl _ _).alloc (Nat.le_refl _) _).alloc (by simp) _
  have Ha := Lib.hid ha
  clear ha
  go_enter Try.func58, Try.ntmps58
  go_wp2_with fail
  obtain ⟨W1, hW1⟩ : ∃ W1, (w.alloc (.cells #[.int .i64 s, .slice A n cap, .int .i64 u] 31)).alloc (.cells #[.int .i64 0, .slice none 0 0, .int .i64 0] 31) = W1 := ⟨_, rfl⟩
  have B1 : Hid (Below w.heap.size w W1) := by rw [← hW1]; exact Ha.out _ _
  have K1 : PB W1 w.heap.size (.int .i64 s) (.slice A n cap) (.int .i64 u) := by rw [← hW1]; exact PB.below (heap_alloc_new w _) (bel_alloc _ _) (by simp)
  have K2 : PB W1 (w.heap.size + 1) (.int .i64 0) (.slice none 0 0) (.int .i64 0) := by
    rw [← hW1]
    have := heap_alloc_new (w.alloc (.cells #[.int .i64 s, .slice A n cap, .int .i64 u] 31)) (.cells #[.int .i64 0, .slice none 0 0, .int .i64 0] 31)
    rw [World.size_alloc] at this
    exact this
  have z1 : w.heap.size + 1 < W1.heap.size := K2.lt
  rw [hW1]
  clear hW1
  obtain ⟨x0, x1, x2, xf⟩ := K1.cells
  obtain ⟨y0, y1, y2, yf⟩ := K2.cells
  have HC : Hid (∀ V, Below W1.heap.size W1 V → Calls Try.prog 75 #[.slice A n cap] V (NewI V zs)) := fun V hb => copyI_any A n cap zs V Hn.out hm ((HI.out.below B1.out).below hb)
  have hdr : Hid (Below W1.heap.size W1 W1.drew) := (Below.refl _ _).drew
  go_region_with (first
    | (go_at_call 75; refine (HC.out _ hdr.out).mono ?_; rintro e w2 ⟨A2, c2, rfl, v2, b2⟩; have q0 := bkeep (w := W1) x0 (bel_of_drew b2); have q2 := bkeep (w := W1) x2 (bel_of_drew b2); have r0 := bkeep (w := W1) y0 (bel_of_drew b2); have r1 := bkeep (w := W1) y1 (bel_of_drew b2); have r2 := bkeep (w := W1) y2 (bel_of_drew b2); have rf := fun o => ((bcell (bel_of_drew b2)).2 _ o z1).trans (yf o); have V2 := Lib.hid v2; have B2 := Lib.hid (bel_of_drew b2); clear b2 v2))
  all_goals
    have z2 : W1.heap.size ≤ w2.heap.size := B2.out.size
    clear x0 x1 x2 xf y0 y1 y2 yf K1 K2 q0 q2
    go_wp2
    refine bodyPost_ret (v := .agg #[.int .i64 s, .slice A2 zs.length c2, .int .i64 u]) (by simp [results, Try.results58, go_sem, r0, r1, r2]) rfl ⟨A2, c2, rfl, ?_, ?_⟩
    · refine IV.wide (lo := W1.heap.size) (hi := w2.heap.size) ?_ (by have := B1.out.size; omega) (by simp [World.setCell])
      iterate 3 refine iv_set ?_ (by simp <;> omega) _
      exact V2.out
    · iterate 3 refine Below.setCell ?_ (by simp <;> omega) _
      exact bel_trans B1.out B2.out
end Go.Proofs.Ytmmoelijpemlfaa.Bk
