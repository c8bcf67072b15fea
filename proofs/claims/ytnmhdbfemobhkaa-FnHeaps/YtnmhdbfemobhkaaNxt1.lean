/- What NextDue answers: the reference's and the program's. -/
import Derived.Test.YtnmhdbfemobhkaaHp9
namespace Go.Proofs.Ytnmhdbfemobhkaa.Hp
open Go.RowKit Go.Deep Base

/-- A boxed item. -/
def Bk3 (w : World) (g : Nat) (a b c : Int) : Prop := w.heap[g]? = some (.cells #[.int .i64 a, .int .i64 b, .int .i64 c] 39 (0, 0))
theorem Bk3.cells {w : World} {g : Nat} {a b c : Int} (h : Bk3 w g a b c) : w.cell? ⟨g, 0, none⟩ = some (.int .i64 a) ∧ w.cell? ⟨g, 1, none⟩ = some (.int .i64 b) ∧ w.cell? ⟨g, 2, none⟩ = some (.int .i64 c) ∧ ∀ j, w.frozen? ⟨g, j, none⟩ = false := by
  have hc : ∀ o, w.cell? ⟨g, o, none⟩ = #[.int .i64 a, .int .i64 b, .int .i64 c][o]? := fun o => cell_of_row _ _ o _ _ (0, 0) h
  refine ⟨?_, ?_, ?_, fun j => by unfold Bk3 at h; simp [World.frozen?, h]⟩ <;> (rw [hc]; rfl)
theorem Bk3.lt {w : World} {g : Nat} {a b c : Int} (h : Bk3 w g a b c) : g < w.heap.size := (Array.getElem?_eq_some_iff.1 h).1
theorem Bk3.below {w w' : World} {g : Nat} {a b c : Int} (h : Bk3 w g a b c) (hb : Below w.heap.size w w') : Bk3 w' g a b c := (hb.block g h.lt).trans h

/-- NextDue's two answers. -/
def nextOk (ds : List Du) (q : Int) : Bool := okH ds q && decide (0 < ds.length)
def nextD (ds : List Du) (q : Int) : Du := if nextOk ds q = true then ds.getD 0 zDu else zDu

def NextEnd (w : World) (ds : List Du) (q : Int) (e : Ending) (w' : World) : Prop :=
  e = .returned (.tuple #[.agg #[.int .i64 (nextD ds q).at, .int .i64 (nextD ds q).seq, .int .i64 (nextD ds q).id], .bool (nextOk ds q)]) ∧ Below w.heap.size w w'

theorem next_no {ds : List Du} {q : Int} (h : nextOk ds q = false) : nextD ds q = zDu := by unfold nextD; rw [if_neg (by rw [h]; simp)]
theorem next_yes {ds : List Du} {q : Int} (h : nextOk ds q = true) : nextD ds q = ds.getD 0 zDu := by unfold nextD; rw [if_pos h]

set_option maxRecDepth 100000 in
set_option maxHeartbeats 1000000 in
theorem specNext_any (A : Option Addr) (n cap lo hi : Nat) (ds : List Du) (q : Int) (w : World) (hn : ds.length = n) (hm : n ≤ 1048576) (h : DV w lo hi A ds) (hs : hi ≤ w.heap.size) :
    Calls Try.prog 33 #[.agg #[.slice A n cap, .int .i64 q]] w (NextEnd w ds q) := by
  have Hn := Lib.hid hn
  have HI := Lib.hid h
  clear hn h
  go_enter Try.func33, Try.ntmps33
  go_wp2_with fail
  have hB0 : Below w.heap.size w ((w.alloc (.cells #[.slice A n cap, .int .i64 q] 28)).alloc (.cells #[.int .i64 0, .int .i64 0, .int .i64 0] 39)) := ((Below.refl _ _).alloc (Nat.le_refl _) _).alloc (by simp) _
  refine (specHeapOk_any A n cap lo hi ds q _ Hn.out hm (HI.out.below hB0 hs) (by simp; omega)).mono ?_
  rintro e w1 ⟨rfl, b1⟩
  have X1 : Hid (Blk2 w1 w.heap.size (.slice A n cap) (.int .i64 q)) := Blk2.below (Blk2.alloc (heap_alloc_new w _) _) b1
  have R1 : Hid (Bk3 w1 (w.heap.size + 1) 0 0 0) := by
    have h := heap_alloc_new (w.alloc (.cells #[.slice A n cap, .int .i64 q] 28)) (.cells #[.int .i64 0, .int .i64 0, .int .i64 0] 39)
    rw [World.size_alloc] at h
    exact (b1.block _ (by simp)).trans h
  have B1 := Lib.hid (bel_trans hB0 b1)
  clear b1 hB0
  obtain ⟨x0, x1, xf⟩ := X1.out.cells
  obtain ⟨r0, r1, r2, rf⟩ := R1.out.cells
  have zr : w.heap.size + 1 < w1.heap.size := R1.out.lt
  cases hok : okH ds q
  · have Ho : Hid (nextOk ds q = false) := by show nextOk ds q = false; unfold nextOk; rw [hok]; rfl
    clear hok
    go_wp2
    refine bodyPost_ret (v := .tuple #[.agg #[.int .i64 0, .int .i64 0, .int .i64 0], .bool false]) (by simp [results, Try.results33, go_sem, r0, r1, r2]) rfl ⟨by rw [next_no Ho.out, Ho.out]; rfl, ?_⟩
    iterate 3 refine Below.setCell ?_ (by show w.heap.size ≤ w.heap.size + 1; omega) _
    exact B1.out
  by_cases h0 : n = 0
  · have Ho : Hid (nextOk ds q = false) := by show nextOk ds q = false; unfold nextOk; rw [Hn.out, h0]; simp
    subst h0
    clear hok
    go_wp2
    refine bodyPost_ret (v := .tuple #[.agg #[.int .i64 0, .int .i64 0, .int .i64 0], .bool false]) (by simp [results, Try.results33, go_sem, r0, r1, r2]) rfl ⟨by rw [next_no Ho.out, Ho.out]; rfl, ?_⟩
    iterate 3 refine Below.setCell ?_ (by show w.heap.size ≤ w.heap.size + 1; omega) _
    exact B1.out
  have Ho : Hid (nextOk ds q = true) := by show nextOk ds q = true; unfold nextOk; rw [hok, Hn.out]; simp; omega
  clear hok
  obtain ⟨g, rfl, hg1, hg2, hrd⟩ := (HI.out.below B1.out hs) (by have := Hn.out; omega)
  obtain ⟨c0, c1, c2, _⟩ := hrd 0 (by have := Hn.out; omega)
  obtain ⟨dat, dseq, did, hd⟩ : ∃ a b c, ds.getD 0 zDu = ⟨a, b, c⟩ := ⟨_, _, _, rfl⟩
  rw [hd] at c0 c1 c2
  dsimp only at c0 c1 c2
  simp only [Nat.zero_mul, Nat.zero_add] at c0 c1 c2
  have Hd := Lib.hid hd
  clear hd hrd
  have hn0 : (0 : Int) < (n : Int) := by omega
  have hn1 : 0 < n := by omega
  have hnb : ((n : Int) == 0) = false := by simp; omega
  go_wp2
  refine bodyPost_ret (v := .tuple #[.agg #[.int .i64 dat, .int .i64 dseq, .int .i64 did], .bool true]) (by simp [results, Try.results33, go_sem, r0, r1, r2]) rfl ⟨by rw [next_yes Ho.out, Ho.out, Hd.out], ?_⟩
  iterate 3 refine Below.setCell ?_ (by show w.heap.size ≤ w.heap.size + 1; omega) _
  exact B1.out
end Go.Proofs.Ytnmhdbfemobhkaa.Hp
