/- SortedIds, the reference's and the program's. -/
import Derived.Test.YtnmhdbfemobhkaaPp3
namespace Go.Proofs.Ytnmhdbfemobhkaa.Hp
open Go.RowKit Go.Deep Base

/-- The Ids of all items in their order. -/
def srtL (ds : List Du) (q : Int) : List Int := popL ds q 1000000000
theorem srtL_few (ds : List Du) (q : Int) : (srtL ds q).length ≤ 100 := by
  unfold srtL popL
  split
  · next h => exact Nat.le_trans (popI_len _ _ _) (okH_val h).few
  · simp

set_option maxRecDepth 100000 in
set_option maxHeartbeats 1000000 in
theorem implSorted_any (A : Option Addr) (n cap lo hi : Nat) (ds : List Du) (q : Int) (w : World) (hn : ds.length = n) (hm : n ≤ 1048576) (h : DV w lo hi A ds) (hs : hi ≤ w.heap.size) :
    Calls Try.prog 17 #[.agg #[.slice A n cap, .int .i64 q]] w (NewI w (srtL ds q)) := by
  have Hn := Lib.hid hn
  have HI := Lib.hid h
  clear hn h
  go_enter Try.func17, Try.ntmps17
  go_wp2_with fail
  refine (implPop_any A n cap lo hi ds q 1000000000 _ Hn.out hm (HI.out.below (bel_alloc w _) hs) (by simp; omega)).mono ?_
  rintro e w1 ⟨A1, c1, A2, c2, mid, rfl, h1, h2, v1, i1, b1⟩
  rw [World.size_alloc] at h1
  have I1 := Lib.hid i1
  have B1 := Lib.hid (bel_trans (bel_alloc w _) b1)
  clear v1 i1 b1
  go_wp2
  go_ret
  exact ⟨A2, c2, rfl, (I1.out.below (bel_alloc w1 _) (Nat.le_refl _)).wide (by omega) (by simp), bel_trans B1.out (bel_alloc w1 _)⟩

set_option maxRecDepth 100000 in
set_option maxHeartbeats 1000000 in
theorem specSorted_any (A : Option Addr) (n cap lo hi : Nat) (ds : List Du) (q : Int) (w : World) (hn : ds.length = n) (hm : n ≤ 1048576) (h : DV w lo hi A ds) (hs : hi ≤ w.heap.size) :
    Calls Try.prog 40 #[.agg #[.slice A n cap, .int .i64 q]] w (NewI w (srtL ds q)) := by
  have Hn := Lib.hid hn
  have HI := Lib.hid h
  clear hn h
  go_enter Try.func40, Try.ntmps40
  go_wp2_with fail
  refine (specHeapOk_any A n cap lo hi ds q _ Hn.out hm (HI.out.below (bel_alloc w _) hs) (by simp; omega)).mono ?_
  rintro e w1 ⟨rfl, b1⟩
  have X1 : Hid (Blk2 w1 w.heap.size (.slice A n cap) (.int .i64 q)) := Blk2.below (heap_alloc_new w _) b1
  have B1 := Lib.hid (bel_trans (bel_alloc w _) b1)
  clear b1
  obtain ⟨x0, x1, xf⟩ := X1.out.cells
  cases hok : okH ds q
  · have He := Lib.hid (show srtL ds q = [] from (popD_no hok).2)
    clear hok
    go_wp2
    go_ret
    refine ⟨none, 0, by rw [He.out]; rfl, by rw [He.out]; exact IV.nil _ _ _ _, B1.out⟩
  clear hok
  have z1 : w.heap.size ≤ w1.heap.size := B1.out.size
  go_wp2_with fail
  refine (specPop_any A n cap lo hi ds q 1000000000 w1 Hn.out hm (HI.out.below B1.out hs) (by omega)).mono ?_
  rintro e w2 ⟨A1, c1, A2, c2, rfl, v2, i2, b2⟩
  have I2 := Lib.hid i2
  have B2 := Lib.hid (bel_trans B1.out b2)
  clear v2 i2 b2
  go_wp2
  go_ret
  exact ⟨A2, c2, rfl, (I2.out.below (bel_alloc w2 _) (Nat.le_refl _)).wide z1 (by simp), bel_trans B2.out (bel_alloc w2 _)⟩
end Go.Proofs.Ytnmhdbfemobhkaa.Hp
