/- What NextDue answers: the reference's and the program's. What the program's NextDue answers. -/
import Derived.Test.YtpjelojmkmednaaLh4
namespace Go.Proofs.Ytpjelojmkmednaa.Hp
open Go.RowKit Go.Deep Base

/-- A boxed item. -/
def Bk3 (w : World) (g : Nat) (a b c : Int) : Prop := w.heap[g]? = some (.cells #[.int .i64 a, .int .i64 b, .int .i64 c] 80 (0, 0))
theorem Bk3.cells {w : World} {g : Nat} {a b c : Int} (h : Bk3 w g a b c) : w.cell? ⟨g, 0, none⟩ = some (.int .i64 a) ∧ w.cell? ⟨g, 1, none⟩ = some (.int .i64 b) ∧ w.cell? ⟨g, 2, none⟩ = some (.int .i64 c) ∧ ∀ j, w.frozen? ⟨g, j, none⟩ = false := by
  have hc : ∀ o, w.cell? ⟨g, o, none⟩ = #[.int .i64 a, .int .i64 b, .int .i64 c][o]? := fun o => cell_of_row _ _ o _ _ (0, 0) h
  refine ⟨?_, ?_, ?_, fun j => by unfold Bk3 at h; simp [World.frozen?, h]⟩ <;> (rw [hc]; rfl)
theorem Bk3.lt {w : World} {g : Nat} {a b c : Int} (h : Bk3 w g a b c) : g < w.heap.size := (Array.getElem?_eq_some_iff.1 h).1
theorem Bk3.below {w w' : World} {g : Nat} {a b c : Int} (h : Bk3 w g a b c) (hb : Below w.heap.size w w') : Bk3 w' g a b c := (hb.block g h.lt).trans h

/-- NextDue's two answers. -/
def nextOk (ds : List Du) (q : Int) : Bool := okH ds q && decide (0 < ds.length)
def nextD (ds : List Du) (q : Int) : Du := if nextOk ds q = true then ds.getD 0 zDu else zDu

def NextEnd (w : World) (ds : List Du) (q : Int) (e : Ending) (w' : World) : Prop :=
  e = .returned (.tuple #[.agg #[.int .i64 (nextD ds q).at, .int .i64 (nextD ds q).seq, .int .i64 (nextD ds q).id], .bool (nextOk ds q)]) ∧ Below w.heap.size w w'

theorem next_no {ds : List Du} {q : Int} (h : nextOk ds q = false) : nextD ds q = zDu := by unfold nextD; rw [if_neg (by rw [h]; simp)]
theorem next_yes {ds : List Du} {q : Int} (h : nextOk ds q = true) : nextD ds q = ds.getD 0 zDu := by unfold nextD; rw [if_pos h]

set_option maxRecDepth 100000 in
set_option maxHeartbeats 1000000 in
theorem specNext_any (A : Option Addr) (n cap lo hi : Nat) (ds : List Du) (q : Int) (w : World) (hn : ds.length = n) (hm : n ≤ 1048576) (h : DV w lo hi A ds) (hs : hi ≤ w.heap.size) :
    Calls Try.prog 76 #[.agg #[.slice A n cap, .int .i64 q]] w (NextEnd w ds q) := by
  have Hn := Lib.hid hn
  have HI := Lib.hid h
  clear hn h
  go_enter Try.func76, Try.ntmps76
  go_wp2_with fail
  have hB0 : Below w.heap.size w ((w.alloc (.cells #[.slice A n cap, .int .i64 q] 29)).alloc (.cells #[.int .i64 0, .int .i64 0, .int .i64 0] 80)) := ((Below.refl _ _).alloc (Nat.le_refl _) _).alloc (by simp) _
  refine (specHeapOk_any A n cap lo hi ds q _ Hn.out hm (HI.out.below hB0 hs) (by simp; omega)).mono ?_
  rintro e w1 ⟨rfl, b1⟩
  have X1 : Hid (Blk2 w1 w.heap.size (.slice A n cap) (.int .i64 q)) := Blk2.below (Blk2.alloc (heap_alloc_new w _) _) b1
  have R1 : Hid (Bk3 w1 (w.heap.size + 1) 0 0 0) := by
    have h := heap_alloc_new (w.alloc (.cells #[.slice A n cap, .int .i64 q] 29)) (.cells #[.int .i64 0, .int .i64 0, .int .i64 0] 80)
    rw [World.size_alloc] at h
    exact (b1.block _ (by simp)).trans h
  have B1 := Lib.hid (bel_trans hB0 b1)
  clear b1 hB0
  obtain ⟨x0, x1, xf⟩ := X1.out.cells
  obtain ⟨r0, r1, r2, rf⟩ := R1.out.cells
  have zr : w.heap.size + 1 < w1.heap.size := R1.out.lt
  cases hok : okH ds q
  · have Ho : Hid (nextOk ds q = false) := by show nextOk ds q = false; unfold nextOk; rw [hok]; rfl
    clear hok
    go_wp2
    refine bodyPost_ret (v := .tuple #[.agg #[.int .i64 0, .int .i64 0, .int .i64 0], .bool false]) (by simp [results, Try.results76, go_sem, r0, r1, r2]) rfl ⟨by rw [next_no Ho.out, Ho.out]; rfl, ?_⟩
    iterate 3 refine Below.setCell ?_ (by show w.heap.size ≤ w.heap.size + 1; omega) _
    exact B1.out
  by_cases h0 : n = 0
  · have Ho : Hid (nextOk ds q = false) := by show nextOk ds q = false; unfold nextOk; rw [Hn.out, h0]; simp
    subst h0
    clear hok
    go_wp2
    refine bodyPost_ret (v := .tuple #[.agg #[.int .i64 0, .int .i64 0, .int .i64 0], .bool false]) (by simp [results, Try.results76, go_sem, r0, r1, r2]) rfl ⟨by rw [next_no Ho.out, Ho.out]; rfl, ?_⟩
    iterate 3 refine Below.setCell ?_ (by show w.heap.size ≤ w.heap.size + 1; omega) _
    exact B1.out
  have Ho : Hid (nextOk ds q = true) := by show nextOk ds q = true; unfold nextOk; rw [hok, Hn.out]; simp; omega
  clear hok
  obtain ⟨g, rfl, hg1, hg2, hrd⟩ := (HI.out.below B1.out hs) (by have := Hn.out; omega)
  obtain ⟨c0, c1, c2, _⟩ := hrd 0 (by have := Hn.out; omega)
  obtain ⟨dat, dseq, did, hd⟩ : ∃ a b c, ds.getD 0 zDu = ⟨a, b, c⟩ := ⟨_, _, _, rfl⟩
  rw [hd] at c0 c1 c2
  dsimp only at c0 c1 c2
  simp only [Nat.zero_mul, Nat.zero_add] at c0 c1 c2
  have Hd := Lib.hid hd
  clear hd hrd
  have hn0 : (0 : Int) < (n : Int) := by omega
  have hn1 : 0 < n := by omega
  have hnb : ((n : Int) == 0) = false := by simp; omega
  go_wp2
  refine bodyPost_ret (v := .tuple #[.agg #[.int .i64 dat, .int .i64 dseq, .int .i64 did], .bool true]) (by simp [results, Try.results76, go_sem, r0, r1, r2]) rfl ⟨by rw [next_yes Ho.out, Ho.out, Hd.out], ?_⟩
  iterate 3 refine Below.setCell ?_ (by show w.heap.size ≤ w.heap.size + 1; omega) _
  exact B1.out
end Go.Proofs.Ytpjelojmkmednaa.Hp

namespace Go.Proofs.Ytpjelojmkmednaa.Hp
open Go.RowKit Go.Deep Base

def fstD (ds : List Du) : Du := ds.getD 0 zDu

set_option maxRecDepth 100000 in
set_option maxHeartbeats 1000000 in
theorem first_any (b : Nat) (A : Option Addr) (n cap lo hi : Nat) (ds : List Du) (w : World) (hn : ds.length = n) (ht : Tr w b A n cap) (h : DV w lo hi A ds) (hs : hi ≤ w.heap.size) :
    Calls Try.prog 98 #[.pointer (some ⟨b, 0, none⟩)] w fun e w' => e = .returned (.agg #[.int .i64 (fstD ds).at, .int .i64 (fstD ds).seq, .int .i64 (fstD ds).id]) ∧ Below w.heap.size w w' := by
  have Hn := Lib.hid hn
  have HI := Lib.hid h
  have hb := ht.lt
  obtain ⟨t0, t1, _⟩ := ht.cells
  clear hn h ht
  have HB : Hid (∀ o o', Below w.heap.size w ((w.alloc o).alloc o')) := fun o o' => ((Below.refl _ _).alloc (Nat.le_refl _) _).alloc (by simp) _
  by_cases h0 : n = 0
  · have Hf : Hid (fstD ds = zDu) := by show fstD ds = zDu; have h1 : ds = [] := List.eq_nil_of_length_eq_zero (by have := Hn.out; omega); rw [h1]; rfl
    subst h0
    go_enter Try.func98, Try.ntmps98
    go_wp2
    refine bodyPost_ret (v := .agg #[.int .i64 0, .int .i64 0, .int .i64 0]) (by simp [results, Try.results98, go_sem]) rfl ⟨by rw [Hf.out]; rfl, ?_⟩
    exact HB.out _ _
  obtain ⟨g, rfl, hg1, hg2, hrd⟩ := HI.out (by have := Hn.out; omega)
  obtain ⟨c0, c1, c2, _⟩ := hrd 0 (by have := Hn.out; omega)
  obtain ⟨dat, dseq, did, hd⟩ : ∃ a b c, ds.getD 0 zDu = ⟨a, b, c⟩ := ⟨_, _, _, rfl⟩
  rw [hd] at c0 c1 c2
  dsimp only at c0 c1 c2
  simp only [Nat.zero_mul, Nat.zero_add] at c0 c1 c2
  have Hd : Hid (fstD ds = ⟨dat, dseq, did⟩) := hd
  clear hd hrd
  have hgl : g < w.heap.size := by omega
  have hn0 : (0 : Int) < (n : Int) := by omega
  have hnb : ((n : Int) == 0) = false := by simp; omega
  go_enter Try.func98, Try.ntmps98
  go_wp2
  refine bodyPost_ret (v := .agg #[.int .i64 dat, .int .i64 dseq, .int .i64 did]) (by simp [results, Try.results98, go_sem]) rfl ⟨by rw [Hd.out], ?_⟩
  exact HB.out _ _

set_option maxRecDepth 100000 in
set_option maxHeartbeats 1000000 in
theorem implNext_any (A : Option Addr) (n cap lo hi : Nat) (ds : List Du) (q : Int) (w : World) (hn : ds.length = n) (hm : n ≤ 1048576) (h : DV w lo hi A ds) (hs : hi ≤ w.heap.size) :
    Calls Try.prog 54 #[.agg #[.slice A n cap, .int .i64 q]] w (NextEnd w ds q) := by
  have Hn := Lib.hid hn
  have HI := Lib.hid h
  clear hn h
  go_enter Try.func54, Try.ntmps54
  go_wp2_with fail
  have hB0 : Below w.heap.size w ((w.alloc (.cells #[.slice A n cap, .int .i64 q] 29)).alloc (.cells #[.int .i64 0, .int .i64 0, .int .i64 0] 80)) := ((Below.refl _ _).alloc (Nat.le_refl _) _).alloc (by simp) _
  refine (treeOf_any A n cap lo hi ds q _ Hn.out hm (HI.out.below hB0 hs) (by simp; omega)).mono ?_
  rintro e w1 ⟨A1, c1, rfl, v1, b1⟩
  have R1 : Hid (Bk3 w1 (w.heap.size + 1) 0 0 0) := by
    have h := heap_alloc_new (w.alloc (.cells #[.slice A n cap, .int .i64 q] 29)) (.cells #[.int .i64 0, .int .i64 0, .int .i64 0] 80)
    rw [World.size_alloc] at h
    exact (b1.block _ (by simp)).trans h
  have B1 := Lib.hid (bel_trans hB0 b1)
  have V1 := Lib.hid v1
  simp only [World.size_alloc] at V1
  clear b1 hB0 v1
  obtain ⟨r0, r1, r2, rf⟩ := R1.out.cells
  have zr : w.heap.size + 1 < w1.heap.size := R1.out.lt
  cases hok : okH ds q
  · have Ho : Hid (nextOk ds q = false) := by show nextOk ds q = false; unfold nextOk; rw [hok]; rfl
    clear hok
    go_wp2
    refine bodyPost_ret (v := .tuple #[.agg #[.int .i64 0, .int .i64 0, .int .i64 0], .bool false]) (by simp [results, Try.results54, go_sem, r0, r1, r2, zr]) rfl ⟨by rw [next_no Ho.out, Ho.out]; rfl, ?_⟩
    refine Below.alloc ?_ (by simp [World.setCell]; omega) _
    iterate 3 refine Below.setCell ?_ (by show w.heap.size ≤ w.heap.size + 1; omega) _
    exact B1.out
  have Hv := Lib.hid (okH_val hok)
  have Hok := Lib.hid hok
  clear hok
  go_wp2_with fail
  obtain ⟨W3, hW3⟩ : ∃ W3, w1.alloc (.cells #[.slice A1 n c1, .func (.func 116) #[] #[]] 104) = W3 := ⟨_, rfl⟩
  have T3 : Hid (Tr W3 w1.heap.size A1 n c1) := by rw [← hW3]; exact heap_alloc_new w1 _
  have V3 : Hid (DV W3 (w.heap.size + 1 + 1) w1.heap.size A1 ds) := by rw [← hW3]; exact V1.out.below (bel_alloc w1 _) (Nat.le_refl _)
  have B3 : Hid (Below w.heap.size w W3) := by rw [← hW3]; exact bel_trans B1.out (bel_alloc w1 _)
  have z3 : w1.heap.size < W3.heap.size := by rw [← hW3]; simp
  have R3 : Hid (Bk3 W3 (w.heap.size + 1) 0 0 0) := by rw [← hW3]; exact R1.out.below (bel_alloc w1 _)
  rw [hW3]
  clear hW3 V1 B1 R1 r0 r1 r2 rf
  refine (first_any w1.heap.size A1 n c1 _ _ ds W3 Hn.out T3.out V3.out (by omega)).mono ?_
  rintro e w4 ⟨rfl, b4⟩
  have B4 := Lib.hid (bel_trans B3.out b4)
  have R4 := Lib.hid (R3.out.below b4)
  clear b4
  obtain ⟨dat, dseq, did, hd⟩ : ∃ a b c, fstD ds = ⟨a, b, c⟩ := ⟨_, _, _, rfl⟩
  rw [hd]
  have Hd := Lib.hid hd
  clear hd
  dsimp only
  go_wp2_with fail
  obtain ⟨W5, hW5⟩ : ∃ W5, w4.alloc (.cells #[.int .i64 dat, .int .i64 dseq, .int .i64 did] 80) = W5 := ⟨_, rfl⟩
  have D5 : Hid (Bk3 W5 w4.heap.size dat dseq did) := by rw [← hW5]; exact heap_alloc_new w4 _
  have R5 : Hid (Bk3 W5 (w.heap.size + 1) 0 0 0) := by rw [← hW5]; exact R4.out.below (bel_alloc w4 _)
  have B5 : Hid (Below w.heap.size w W5) := by rw [← hW5]; exact bel_trans B4.out (bel_alloc w4 _)
  have z4 : w.heap.size + 1 < w4.heap.size := R4.out.lt
  rw [hW5]
  clear hW5 R4 B4
  obtain ⟨d0, d1, d2, df⟩ := D5.out.cells
  obtain ⟨r0, r1, r2, rf⟩ := R5.out.cells
  have hne : w4.heap.size ≠ w.heap.size + 1 := by omega
  by_cases h0 : n = 0
  · have hz : fstD ds = zDu := by have h1 : ds = [] := List.eq_nil_of_length_eq_zero (by have := Hn.out; omega); rw [h1]; rfl
    have Ho : Hid (nextOk ds q = false) := by show nextOk ds q = false; unfold nextOk; rw [Hn.out, h0]; simp
    obtain ⟨rfl, rfl, rfl⟩ : dat = 0 ∧ dseq = 0 ∧ did = 0 := by have h2 := Hd.out; rw [hz] at h2; injection h2 with a b c; exact ⟨a.symm, b.symm, c.symm⟩
    clear hz
    go_region
    all_goals
      go_wp2
      refine bodyPost_ret (v := .tuple #[.agg #[.int .i64 0, .int .i64 0, .int .i64 0], .bool false]) (by simp [results, Try.results54, go_sem, r0, r1, r2]) rfl ⟨by rw [next_no Ho.out, Ho.out]; rfl, ?_⟩
      refine Below.drew ?_
      iterate 3 refine Below.setCell ?_ (by show w.heap.size ≤ w.heap.size + 1; omega) _
      exact B5.out
  · have Ho : Hid (nextOk ds q = true) := by show nextOk ds q = true; unfold nextOk; rw [Hok.out, Hn.out]; simp; omega
    have hid : (did == 0) = false := by
      have h1 := Hv.out.each 0 (by have := Hn.out; omega)
      have h2 : ds.getD 0 zDu = ⟨dat, dseq, did⟩ := Hd.out
      rw [h2] at h1
      unfold okD at h1
      simp only [Bool.and_eq_true, Tick.inB_iff] at h1
      have h3 := h1.2.1
      simp
      omega
    go_region
    all_goals
      go_wp2
      refine bodyPost_ret (v := .tuple #[.agg #[.int .i64 dat, .int .i64 dseq, .int .i64 did], .bool true]) (by simp [results, Try.results54, go_sem, r0, r1, r2]) rfl ⟨by rw [next_yes Ho.out, Ho.out]; exact congrArg _ (by rw [show ds.getD 0 zDu = ⟨dat, dseq, did⟩ from Hd.out]), ?_⟩
      refine Below.drew ?_
      iterate 3 refine Below.setCell ?_ (by show w.heap.size ≤ w.heap.size + 1; omega) _
      exact B5.out
end Go.Proofs.Ytpjelojmkmednaa.Hp
