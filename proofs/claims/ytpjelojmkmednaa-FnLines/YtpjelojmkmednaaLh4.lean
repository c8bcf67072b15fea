/- What treeOf and the program's HeapOk answer. What the program's HeapOk answers; the law of HeapOk walked. -/
import Derived.Test.YtpjelojmkmednaaLh3
import Derived.Deep.RegionHeld3
import Derived.Laws.EntriesVeiled
import Derived.Test.YtpjelojmkmednaaLh0
namespace Go.Proofs.Ytpjelojmkmednaa.Hp
open Go.RowKit Go.Deep Base

def TreeEnd (w : World) (n : Nat) (ds : List Du) (q : Int) (e : Ending) (w' : World) : Prop :=
  ∃ A cap, e = .returned (.tuple #[.agg #[.slice A n cap, .func (.func 116) #[] #[]], .bool (okH ds q)]) ∧ DV w' w.heap.size w'.heap.size A ds ∧ Below w.heap.size w w'

/-- The same, with the form of the slice's block. -/
def TreeSh (w : World) (n : Nat) (ds : List Du) (q : Int) (e : Ending) (w' : World) : Prop :=
  ∃ A cap, e = .returned (.tuple #[.agg #[.slice A n cap, .func (.func 116) #[] #[]], .bool (okH ds q)]) ∧ DV w' w.heap.size w'.heap.size A ds ∧ Below w.heap.size w w' ∧ Sh w' w.heap.size w'.heap.size A n cap

theorem bkeep {w w' : World} {b o : Nat} {v : Value} (h : w.cell? ⟨b, o, none⟩ = some v) (hb : Below w.heap.size w w') : w'.cell? ⟨b, o, none⟩ = some v :=
  (hb.cell (p := ⟨b, o, none⟩) (World.block_lt_of_cell? _ _ h)).trans h

/-- What the comparison reads: the argument's box, the tree's. -/
def Two (x t : Nat) (A : Option Addr) (n cap : Nat) (q : Int) (A1 : Option Addr) (c1 : Nat) (V : World) : Prop :=
  V.cell? ⟨x, 0, none⟩ = some (.slice A n cap) ∧ V.cell? ⟨x, 1, none⟩ = some (.int .i64 q) ∧ V.cell? ⟨t, 0, none⟩ = some (.slice A1 n c1) ∧ V.cell? ⟨t, 1, none⟩ = some (.func (.func 116) #[] #[])
theorem Two.below {x t : Nat} {A : Option Addr} {n cap : Nat} {q : Int} {A1 : Option Addr} {c1 : Nat} {V W : World} (h : Two x t A n cap q A1 c1 V) (hb : Below V.heap.size V W) : Two x t A n cap q A1 c1 W :=
  ⟨bkeep h.1 hb, bkeep h.2.1 hb, bkeep h.2.2.1 hb, bkeep h.2.2.2 hb⟩

theorem Two.set {x t : Nat} {A : Option Addr} {n cap : Nat} {q : Int} {A1 : Option Addr} {c1 : Nat} {V : World} (h : Two x t A n cap q A1 c1 V) {b o : Nat} {u : Value} (h1 : b ≠ x) (h2 : b ≠ t) : Two x t A n cap q A1 c1 (V.setCell ⟨b, o, none⟩ u) :=
  ⟨(World.cell?_setCell_far _ _ _ _ (by show b ≠ x; exact h1)).trans h.1, (World.cell?_setCell_far _ _ _ _ (by show b ≠ x; exact h1)).trans h.2.1, (World.cell?_setCell_far _ _ _ _ (by show b ≠ t; exact h2)).trans h.2.2.1, (World.cell?_setCell_far _ _ _ _ (by show b ≠ t; exact h2)).trans h.2.2.2⟩

set_option maxRecDepth 100000 in
set_option maxHeartbeats 2000000 in
theorem treeOf_sh (A : Option Addr) (n cap lo hi : Nat) (ds : List Du) (q : Int) (w : World) (hn : ds.length = n) (hm : n ≤ 1048576) (h : DV w lo hi A ds) (hs : hi ≤ w.heap.size) :
    Calls Try.prog 85 #[.agg #[.slice A n cap, .int .i64 q]] w (TreeSh w n ds q) := by
  have Hn := Lib.hid hn
  have HI := Lib.hid h
  clear hn h
  go_enter Try.func85, Try.ntmps85
  go_wp2_with fail
  have hB0 : Below w.heap.size w ((w.alloc (.cells #[.slice A n cap, .int .i64 q] 29)).alloc (.cells #[.slice none 0 0, .nilFunc] 104)) := ((Below.refl _ _).alloc (Nat.le_refl _) _).alloc (by simp) _
  refine (clone_sh A n cap lo hi ds _ Hn.out hm (HI.out.below hB0 hs) (by simp; omega)).mono ?_
  rintro e w1 ⟨A1, c1, rfl, v1, b1, sh1⟩
  simp only [World.size_alloc] at sh1
  have Q1 : Blk2 w1 w.heap.size (.slice A n cap) (.int .i64 q) := Blk2.below (Blk2.alloc (heap_alloc_new w _) _) b1
  have R1 : w1.heap[w.heap.size + 1]? = some (.cells #[.slice none 0 0, .nilFunc] 104 (0, 0)) := by
    have h := heap_alloc_new (w.alloc (.cells #[.slice A n cap, .int .i64 q] 29)) (.cells #[.slice none 0 0, .nilFunc] 104)
    rw [World.size_alloc] at h
    exact (b1.block _ (by simp)).trans h
  have V1 : DV w1 (w.heap.size + 1 + 1) w1.heap.size A1 ds := by have h := v1; simp only [World.size_alloc] at h; exact h
  have hBB := bel_trans hB0 b1
  have z1 : w.heap.size + 1 < w1.heap.size := (Array.getElem?_eq_some_iff.1 R1).1
  clear b1 v1 hB0
  go_wp2_with fail
  obtain ⟨W3, hW3⟩ : ∃ W3, w1.alloc (.cells #[.slice A1 n c1, .func (.func 116) #[] #[]] 104) = W3 := ⟨_, rfl⟩
  have Q3 : Blk2 W3 w.heap.size (.slice A n cap) (.int .i64 q) := by rw [← hW3]; exact Q1.alloc _
  have R3 : W3.heap[w.heap.size + 1]? = some (.cells #[.slice none 0 0, .nilFunc] 104 (0, 0)) := by rw [← hW3]; exact (Below.heap_alloc w1 _ _ z1).trans R1
  have T3 : Tr W3 w1.heap.size A1 n c1 := by rw [← hW3]; exact heap_alloc_new w1 _
  have V3 : Hid (DV W3 (w.heap.size + 1 + 1) w1.heap.size A1 ds) := by rw [← hW3]; exact V1.below (bel_alloc w1 _) (Nat.le_refl _)
  have B3 : Hid (Below w.heap.size w W3) := by rw [← hW3]; exact bel_trans hBB (bel_alloc w1 _)
  have S3 : Hid (Sh W3 (w.heap.size + 1 + 1) w1.heap.size A1 n c1) := by rw [← hW3]; exact sh1.below (bel_alloc w1 _) (Nat.le_refl _)
  have z3 : w1.heap.size < W3.heap.size := by rw [← hW3]; simp
  rw [hW3]
  have HR3 := Lib.hid R3
  have HT3 := Lib.hid T3
  clear hW3 Q1 R1 V1 hBB sh1
  obtain ⟨n0, n1, _⟩ := Q3.cells
  obtain ⟨t0, t1, _⟩ := T3.cells
  clear Q3 R3 T3
  have Heq := Lib.hid (okH_eq ds q)
  have HS3 : Hid (Two w.heap.size w1.heap.size A n cap q A1 c1 W3.drew) := ⟨n0, n1, t0, t1⟩
  cases hq : Tick.isT q
  · have HTq : Hid (∀ W, Calls Try.prog 86 #[.int .i64 q] W fun e w' => e = .returned (.bool false) ∧ Below W.heap.size W w') := fun W => by have := Tick.implTickOk_any q W; rw [hq] at this; exact this
    have Ho : Hid (okH ds q = false) := by show okH ds q = false; rw [Heq.out, hq]; rfl
    clear hq
    refine wp_region_held_drew (S := Two w.heap.size w1.heap.size A n cap q A1 c1) (by kernel_rfl) HS3.out (fun _ => ?_)
    refine wpAnyH_take (i := 0) (v := (.agg #[.slice A1 n c1, .func (.func 116) #[] #[]])) rfl (by kernel_rfl) (by kernel_rfl) (by kernel_rfl) (fun _ _ _ h => h) (.inl ⟨rfl, fun V hS => ?y0⟩) (HS3).out ?_
    case y0 =>
      obtain ⟨s0, s1, s2, s3⟩ := hS
      go_simp
    go_simp
    refine wpAnyH_take (i := 1) (v := (.pointer (some ⟨w.heap.size, 1, none⟩))) rfl (by kernel_rfl) (by kernel_rfl) (by kernel_rfl) (fun _ _ _ h => h) (.inl ⟨rfl, fun V hS => ?y0⟩) (HS3).out ?_
    case y0 =>
      obtain ⟨s0, s1, s2, s3⟩ := hS
      go_simp
    go_simp
    refine wpAnyH_take (i := 2) (v := (.int .i64 q)) rfl (by kernel_rfl) (by kernel_rfl) (by kernel_rfl) (fun _ _ _ h => h) (.inl ⟨rfl, fun V hS => ?y0⟩) (HS3).out ?_
    case y0 =>
      obtain ⟨s0, s1, s2, s3⟩ := hS
      go_simp
    go_simp
    refine wpAnyH_ready (rs := [3]) (by kernel_rfl) (by simp) (AllReadyH.cons rfl (fun J hJ => ?_) AllReadyH.nil)
    go_simp
    refine (HTq.out _).mono ?_
    rintro e w5 ⟨rfl, b5⟩
    have B5 := Lib.hid (bel_of_drew b5)
    have HS5 := Lib.hid (HS3.out.below b5)
    clear b5
    refine hJ.out _ _ HS5.out (fun _ => ?_)
    go_simp
    refine wpAnyH_take (i := 4) (v := (.bool false)) rfl (by kernel_rfl) (by kernel_rfl) (by kernel_rfl) (fun _ _ _ h => h) (.inl ⟨rfl, fun V hS => ?y0⟩) (HS5).out ?_
    case y0 =>
      obtain ⟨s0, s1, s2, s3⟩ := hS
      go_simp
    go_simp
    refine wpAnyH_take (i := 5) (v := undef) rfl (by kernel_rfl) (by kernel_rfl) (by kernel_rfl) (fun _ _ _ h => h) (.inr ⟨rfl, rfl⟩) (HS5).out ?_
    go_simp
    refine wpAnyH_take (i := 6) (v := undef) rfl (by kernel_rfl) (by kernel_rfl) (by kernel_rfl) (fun _ _ _ h => h) (.inr ⟨rfl, rfl⟩) (HS5).out ?_
    go_simp
    refine wpAnyH_take (i := 7) (v := undef) rfl (by kernel_rfl) (by kernel_rfl) (by kernel_rfl) (fun _ _ _ h => h) (.inr ⟨rfl, rfl⟩) (HS5).out ?_
    go_simp
    refine wpAnyH_take (i := 8) (v := undef) rfl (by kernel_rfl) (by kernel_rfl) (by kernel_rfl) (fun _ _ _ h => h) (.inr ⟨rfl, rfl⟩) (HS5).out ?_
    go_simp
    refine wpAnyH_take (i := 9) (v := undef) rfl (by kernel_rfl) (by kernel_rfl) (by kernel_rfl) (fun _ _ _ h => h) (.inr ⟨rfl, rfl⟩) (HS5).out ?_
    go_simp
    refine wpAnyH_take (i := 10) (v := (.bool false)) rfl (by kernel_rfl) (by kernel_rfl) (by kernel_rfl) (fun _ _ _ h => h) (.inl ⟨rfl, fun V hS => ?y0⟩) (HS5).out ?_
    case y0 =>
      obtain ⟨s0, s1, s2, s3⟩ := hS
      go_simp
    go_simp
    refine wpAnyH_take (i := 11) (v := (.bool false)) rfl (by kernel_rfl) (by kernel_rfl) (by kernel_rfl) (fun _ _ _ h => h) (.inl ⟨rfl, fun V hS => ?y0⟩) (HS5).out ?_
    case y0 =>
      obtain ⟨s0, s1, s2, s3⟩ := hS
      go_simp
    go_simp
    refine wpAnyH_take (i := 12) (v := undef) rfl (by kernel_rfl) (by kernel_rfl) (by kernel_rfl) (fun _ _ _ h => h) (.inr ⟨rfl, rfl⟩) (HS5).out ?_
    go_simp
    refine wpAnyH_take (i := 13) (v := (.bool false)) rfl (by kernel_rfl) (by kernel_rfl) (by kernel_rfl) (fun _ _ _ h => h) (.inl ⟨rfl, fun V hS => ?y0⟩) (HS5).out ?_
    case y0 =>
      obtain ⟨s0, s1, s2, s3⟩ := hS
      go_simp
    go_simp
    have R5 : (w5).heap[w.heap.size + 1]? = some (.cells #[.slice none 0 0, .nilFunc] 104 (0, 0)) := ((B5).out.block _ (by omega)).trans HR3.out
    have r0 : (w5).cell? ⟨w.heap.size + 1, 0, none⟩ = some (.slice none 0 0) := by simp [World.cell?, R5]
    have r1 : (w5).cell? ⟨w.heap.size + 1, 1, none⟩ = some .nilFunc := by simp [World.cell?, R5]
    have rf : ∀ j, (w5).frozen? ⟨w.heap.size + 1, j, none⟩ = false := fun j => by simp [World.frozen?, R5]
    refine wpAnyH_ready (rs := [14]) (by kernel_rfl) (by simp) (AllReadyH.cons rfl (fun J hJ => ?_) AllReadyH.nil)
    go_simp
    have HSa := Lib.hid ((((HS5).out.set (o := 0) (u := .slice A1 n c1) (show w.heap.size + 1 ≠ w.heap.size by omega) (show w.heap.size + 1 ≠ w1.heap.size by omega)).set (o := 1) (u := .func (.func 116) #[] #[]) (show w.heap.size + 1 ≠ w.heap.size by omega) (show w.heap.size + 1 ≠ w1.heap.size by omega)))
    refine hJ.out _ _ HSa.out (fun _ => ?_)
    refine wpAnyH_ready (rs := [15]) (by kernel_rfl) (by simp) (AllReadyH.cons rfl (fun J hJ => ?_) AllReadyH.nil)
    go_simp
    refine hJ.out _ _ HSa.out (fun _ => ?_)
    refine wpAnyH_done (by kernel_rfl) ?_ _
    go_wp2
    refine bodyPost_ret (v := .tuple #[.agg #[.slice A1 n c1, .func (.func 116) #[] #[]], .bool false]) (by simp [results, Try.results85, go_sem, r0, r1]) rfl ⟨A1, c1, by rw [Ho.out], ?_, ?_⟩
    · refine DV.wide (lo := w.heap.size + 1 + 1) (hi := w1.heap.size) ?_ (by omega) (by simp [World.setCell]; have := (B5).out.size; omega)
      iterate 2 refine DV.setCell ?_ (by show w.heap.size + 1 < w.heap.size + 1 + 1; omega) _
      exact V3.out.below (B5).out (by omega)
    · refine ⟨?_, ?_⟩
      · iterate 2 refine Below.setCell ?_ (by show w.heap.size ≤ w.heap.size + 1; omega) _
        exact B3.out.trans ((B5).out.mono B3.out.size)
      · refine Sh.wide (lo := w.heap.size + 1 + 1) (hi := w1.heap.size) ?_ (by omega) (by simp [World.setCell]; have := (B5).out.size; omega)
        iterate 2 refine Sh.setCell ?_ (by show w.heap.size + 1 < w.heap.size + 1 + 1; omega) _
        exact S3.out.below (B5).out (by omega)
  have HTq : Hid (∀ W, Calls Try.prog 86 #[.int .i64 q] W fun e w' => e = .returned (.bool true) ∧ Below W.heap.size W w') := fun W => by have := Tick.implTickOk_any q W; rw [hq] at this; exact this
  have Hq := Lib.hid hq
  clear hq
  cases hd : duesB ds q n
  · have Ho : Hid (okH ds q = false) := by show okH ds q = false; rw [Heq.out, Hq.out, Hn.out, hd]; rfl
    have Hd := Lib.hid hd
    clear hd
    refine wp_region_held_drew (S := Two w.heap.size w1.heap.size A n cap q A1 c1) (by kernel_rfl) HS3.out (fun _ => ?_)
    refine wpAnyH_take (i := 0) (v := (.agg #[.slice A1 n c1, .func (.func 116) #[] #[]])) rfl (by kernel_rfl) (by kernel_rfl) (by kernel_rfl) (fun _ _ _ h => h) (.inl ⟨rfl, fun V hS => ?y0⟩) (HS3).out ?_
    case y0 =>
      obtain ⟨s0, s1, s2, s3⟩ := hS
      go_simp
    go_simp
    refine wpAnyH_take (i := 1) (v := (.pointer (some ⟨w.heap.size, 1, none⟩))) rfl (by kernel_rfl) (by kernel_rfl) (by kernel_rfl) (fun _ _ _ h => h) (.inl ⟨rfl, fun V hS => ?y0⟩) (HS3).out ?_
    case y0 =>
      obtain ⟨s0, s1, s2, s3⟩ := hS
      go_simp
    go_simp
    refine wpAnyH_take (i := 2) (v := (.int .i64 q)) rfl (by kernel_rfl) (by kernel_rfl) (by kernel_rfl) (fun _ _ _ h => h) (.inl ⟨rfl, fun V hS => ?y0⟩) (HS3).out ?_
    case y0 =>
      obtain ⟨s0, s1, s2, s3⟩ := hS
      go_simp
    go_simp
    refine wpAnyH_ready (rs := [3]) (by kernel_rfl) (by simp) (AllReadyH.cons rfl (fun J hJ => ?_) AllReadyH.nil)
    go_simp
    refine (HTq.out _).mono ?_
    rintro e w5 ⟨rfl, b5⟩
    have B5 := Lib.hid (bel_of_drew b5)
    have HS5 := Lib.hid (HS3.out.below b5)
    clear b5
    refine hJ.out _ _ HS5.out (fun _ => ?_)
    go_simp
    refine wpAnyH_take (i := 4) (v := (.bool true)) rfl (by kernel_rfl) (by kernel_rfl) (by kernel_rfl) (fun _ _ _ h => h) (.inl ⟨rfl, fun V hS => ?y0⟩) (HS5).out ?_
    case y0 =>
      obtain ⟨s0, s1, s2, s3⟩ := hS
      go_simp
    go_simp
    refine wpAnyH_take (i := 5) (v := (.pointer (some ⟨w.heap.size, 0, none⟩))) rfl (by kernel_rfl) (by kernel_rfl) (by kernel_rfl) (fun _ _ _ h => h) (.inl ⟨rfl, fun V hS => ?y0⟩) (HS5).out ?_
    case y0 =>
      obtain ⟨s0, s1, s2, s3⟩ := hS
      go_simp
    go_simp
    refine wpAnyH_take (i := 6) (v := (.slice A n cap)) rfl (by kernel_rfl) (by kernel_rfl) (by kernel_rfl) (fun _ _ _ h => h) (.inl ⟨rfl, fun V hS => ?y0⟩) (HS5).out ?_
    case y0 =>
      obtain ⟨s0, s1, s2, s3⟩ := hS
      go_simp
    go_simp
    refine wpAnyH_take (i := 7) (v := (.pointer (some ⟨w.heap.size, 1, none⟩))) rfl (by kernel_rfl) (by kernel_rfl) (by kernel_rfl) (fun _ _ _ h => h) (.inl ⟨rfl, fun V hS => ?y0⟩) (HS5).out ?_
    case y0 =>
      obtain ⟨s0, s1, s2, s3⟩ := hS
      go_simp
    go_simp
    refine wpAnyH_take (i := 8) (v := (.int .i64 q)) rfl (by kernel_rfl) (by kernel_rfl) (by kernel_rfl) (fun _ _ _ h => h) (.inl ⟨rfl, fun V hS => ?y0⟩) (HS5).out ?_
    case y0 =>
      obtain ⟨s0, s1, s2, s3⟩ := hS
      go_simp
    go_simp
    refine wpAnyH_ready (rs := [9]) (by kernel_rfl) (by simp) (AllReadyH.cons rfl (fun J hJ => ?_) AllReadyH.nil)
    go_simp
    refine (duesOk_any A n cap lo hi ds q w5 Hn.out hm (HI.out.below (B3.out.trans (B5.out.mono B3.out.size)) hs) (Nat.le_trans hs (B3.out.trans (B5.out.mono B3.out.size)).size)).mono ?_
    rintro e w6 ⟨rfl, b6⟩
    rw [Hd.out]
    have B6 := Lib.hid (bel_trans B5.out b6)
    have HS6 := Lib.hid (HS5.out.below b6)
    clear b6
    refine hJ.out _ _ HS6.out (fun _ => ?_)
    go_simp
    refine wpAnyH_take (i := 10) (v := (.bool false)) rfl (by kernel_rfl) (by kernel_rfl) (by kernel_rfl) (fun _ _ _ h => h) (.inl ⟨rfl, fun V hS => ?y0⟩) (HS6).out ?_
    case y0 =>
      obtain ⟨s0, s1, s2, s3⟩ := hS
      go_simp
    go_simp
    refine wpAnyH_take (i := 11) (v := (.bool false)) rfl (by kernel_rfl) (by kernel_rfl) (by kernel_rfl) (fun _ _ _ h => h) (.inl ⟨rfl, fun V hS => ?y0⟩) (HS6).out ?_
    case y0 =>
      obtain ⟨s0, s1, s2, s3⟩ := hS
      go_simp
    go_simp
    skip
    refine wpAnyH_take (i := 12) (v := undef) rfl (by kernel_rfl) (by kernel_rfl) (by kernel_rfl) (fun _ _ _ h => h) (.inr ⟨rfl, rfl⟩) (HS6).out ?_
    go_simp
    refine wpAnyH_take (i := 13) (v := (.bool false)) rfl (by kernel_rfl) (by kernel_rfl) (by kernel_rfl) (fun _ _ _ h => h) (.inl ⟨rfl, fun V hS => ?y0⟩) (HS6).out ?_
    case y0 =>
      obtain ⟨s0, s1, s2, s3⟩ := hS
      go_simp
    go_simp
    have R5 : (w6).heap[w.heap.size + 1]? = some (.cells #[.slice none 0 0, .nilFunc] 104 (0, 0)) := ((B6).out.block _ (by omega)).trans HR3.out
    have r0 : (w6).cell? ⟨w.heap.size + 1, 0, none⟩ = some (.slice none 0 0) := by simp [World.cell?, R5]
    have r1 : (w6).cell? ⟨w.heap.size + 1, 1, none⟩ = some .nilFunc := by simp [World.cell?, R5]
    have rf : ∀ j, (w6).frozen? ⟨w.heap.size + 1, j, none⟩ = false := fun j => by simp [World.frozen?, R5]
    refine wpAnyH_ready (rs := [14]) (by kernel_rfl) (by simp) (AllReadyH.cons rfl (fun J hJ => ?_) AllReadyH.nil)
    go_simp
    have HSa := Lib.hid ((((HS6).out.set (o := 0) (u := .slice A1 n c1) (show w.heap.size + 1 ≠ w.heap.size by omega) (show w.heap.size + 1 ≠ w1.heap.size by omega)).set (o := 1) (u := .func (.func 116) #[] #[]) (show w.heap.size + 1 ≠ w.heap.size by omega) (show w.heap.size + 1 ≠ w1.heap.size by omega)))
    refine hJ.out _ _ HSa.out (fun _ => ?_)
    refine wpAnyH_ready (rs := [15]) (by kernel_rfl) (by simp) (AllReadyH.cons rfl (fun J hJ => ?_) AllReadyH.nil)
    go_simp
    refine hJ.out _ _ HSa.out (fun _ => ?_)
    refine wpAnyH_done (by kernel_rfl) ?_ _
    go_wp2
    refine bodyPost_ret (v := .tuple #[.agg #[.slice A1 n c1, .func (.func 116) #[] #[]], .bool false]) (by simp [results, Try.results85, go_sem, r0, r1]) rfl ⟨A1, c1, by rw [Ho.out], ?_, ?_⟩
    · refine DV.wide (lo := w.heap.size + 1 + 1) (hi := w1.heap.size) ?_ (by omega) (by simp [World.setCell]; have := (B6).out.size; omega)
      iterate 2 refine DV.setCell ?_ (by show w.heap.size + 1 < w.heap.size + 1 + 1; omega) _
      exact V3.out.below (B6).out (by omega)
    · refine ⟨?_, ?_⟩
      · iterate 2 refine Below.setCell ?_ (by show w.heap.size ≤ w.heap.size + 1; omega) _
        exact B3.out.trans ((B6).out.mono B3.out.size)
      · refine Sh.wide (lo := w.heap.size + 1 + 1) (hi := w1.heap.size) ?_ (by omega) (by simp [World.setCell]; have := (B6).out.size; omega)
        iterate 2 refine Sh.setCell ?_ (by show w.heap.size + 1 < w.heap.size + 1 + 1; omega) _
        exact S3.out.below (B6).out (by omega)
  have Hd := Lib.hid hd
  clear hd
  have HTr6 : Hid (∀ W, Below W3.heap.size W3 W → Tr W w1.heap.size A1 n c1) := fun W hb => HT3.out.below hb
  cases ho : ordB ds n
  · have Ho : Hid (okH ds q = false) := by show okH ds q = false; rw [Heq.out, Hq.out, Hn.out, Hd.out, ho]; rfl
    have Hor := Lib.hid ho
    clear ho
    refine wp_region_held_drew (S := Two w.heap.size w1.heap.size A n cap q A1 c1) (by kernel_rfl) HS3.out (fun _ => ?_)
    refine wpAnyH_take (i := 0) (v := (.agg #[.slice A1 n c1, .func (.func 116) #[] #[]])) rfl (by kernel_rfl) (by kernel_rfl) (by kernel_rfl) (fun _ _ _ h => h) (.inl ⟨rfl, fun V hS => ?y0⟩) (HS3).out ?_
    case y0 =>
      obtain ⟨s0, s1, s2, s3⟩ := hS
      go_simp
    go_simp
    refine wpAnyH_take (i := 1) (v := (.pointer (some ⟨w.heap.size, 1, none⟩))) rfl (by kernel_rfl) (by kernel_rfl) (by kernel_rfl) (fun _ _ _ h => h) (.inl ⟨rfl, fun V hS => ?y0⟩) (HS3).out ?_
    case y0 =>
      obtain ⟨s0, s1, s2, s3⟩ := hS
      go_simp
    go_simp
    refine wpAnyH_take (i := 2) (v := (.int .i64 q)) rfl (by kernel_rfl) (by kernel_rfl) (by kernel_rfl) (fun _ _ _ h => h) (.inl ⟨rfl, fun V hS => ?y0⟩) (HS3).out ?_
    case y0 =>
      obtain ⟨s0, s1, s2, s3⟩ := hS
      go_simp
    go_simp
    refine wpAnyH_ready (rs := [3]) (by kernel_rfl) (by simp) (AllReadyH.cons rfl (fun J hJ => ?_) AllReadyH.nil)
    go_simp
    refine (HTq.out _).mono ?_
    rintro e w5 ⟨rfl, b5⟩
    have B5 := Lib.hid (bel_of_drew b5)
    have HS5 := Lib.hid (HS3.out.below b5)
    clear b5
    refine hJ.out _ _ HS5.out (fun _ => ?_)
    go_simp
    refine wpAnyH_take (i := 4) (v := (.bool true)) rfl (by kernel_rfl) (by kernel_rfl) (by kernel_rfl) (fun _ _ _ h => h) (.inl ⟨rfl, fun V hS => ?y0⟩) (HS5).out ?_
    case y0 =>
      obtain ⟨s0, s1, s2, s3⟩ := hS
      go_simp
    go_simp
    refine wpAnyH_take (i := 5) (v := (.pointer (some ⟨w.heap.size, 0, none⟩))) rfl (by kernel_rfl) (by kernel_rfl) (by kernel_rfl) (fun _ _ _ h => h) (.inl ⟨rfl, fun V hS => ?y0⟩) (HS5).out ?_
    case y0 =>
      obtain ⟨s0, s1, s2, s3⟩ := hS
      go_simp
    go_simp
    refine wpAnyH_take (i := 6) (v := (.slice A n cap)) rfl (by kernel_rfl) (by kernel_rfl) (by kernel_rfl) (fun _ _ _ h => h) (.inl ⟨rfl, fun V hS => ?y0⟩) (HS5).out ?_
    case y0 =>
      obtain ⟨s0, s1, s2, s3⟩ := hS
      go_simp
    go_simp
    refine wpAnyH_take (i := 7) (v := (.pointer (some ⟨w.heap.size, 1, none⟩))) rfl (by kernel_rfl) (by kernel_rfl) (by kernel_rfl) (fun _ _ _ h => h) (.inl ⟨rfl, fun V hS => ?y0⟩) (HS5).out ?_
    case y0 =>
      obtain ⟨s0, s1, s2, s3⟩ := hS
      go_simp
    go_simp
    refine wpAnyH_take (i := 8) (v := (.int .i64 q)) rfl (by kernel_rfl) (by kernel_rfl) (by kernel_rfl) (fun _ _ _ h => h) (.inl ⟨rfl, fun V hS => ?y0⟩) (HS5).out ?_
    case y0 =>
      obtain ⟨s0, s1, s2, s3⟩ := hS
      go_simp
    go_simp
    refine wpAnyH_ready (rs := [9]) (by kernel_rfl) (by simp) (AllReadyH.cons rfl (fun J hJ => ?_) AllReadyH.nil)
    go_simp
    refine (duesOk_any A n cap lo hi ds q w5 Hn.out hm (HI.out.below (B3.out.trans (B5.out.mono B3.out.size)) hs) (Nat.le_trans hs (B3.out.trans (B5.out.mono B3.out.size)).size)).mono ?_
    rintro e w6 ⟨rfl, b6⟩
    rw [Hd.out]
    have B6 := Lib.hid (bel_trans B5.out b6)
    have HS6 := Lib.hid (HS5.out.below b6)
    clear b6
    refine hJ.out _ _ HS6.out (fun _ => ?_)
    go_simp
    refine wpAnyH_take (i := 10) (v := (.bool true)) rfl (by kernel_rfl) (by kernel_rfl) (by kernel_rfl) (fun _ _ _ h => h) (.inl ⟨rfl, fun V hS => ?y0⟩) (HS6).out ?_
    case y0 =>
      obtain ⟨s0, s1, s2, s3⟩ := hS
      go_simp
    go_simp
    refine wpAnyH_take (i := 11) (v := (.bool true)) rfl (by kernel_rfl) (by kernel_rfl) (by kernel_rfl) (fun _ _ _ h => h) (.inl ⟨rfl, fun V hS => ?y0⟩) (HS6).out ?_
    case y0 =>
      obtain ⟨s0, s1, s2, s3⟩ := hS
      go_simp
    go_simp
    skip
    refine wpAnyH_ready (rs := [12]) (by kernel_rfl) (by simp) (AllReadyH.cons rfl (fun J hJ => ?_) AllReadyH.nil)
    go_simp
    refine (ordered_any w1.heap.size A1 n c1 (w.heap.size + 1 + 1) w1.heap.size ds w6 Hn.out hm (HTr6.out _ B6.out) (V3.out.below B6.out (by omega)) (by have := B6.out.size; omega)).mono ?_
    rintro e w7 ⟨rfl, b7⟩
    rw [Hor.out]
    have B7 := Lib.hid (bel_trans B6.out b7)
    have HS7 := Lib.hid (HS6.out.below b7)
    clear b7
    refine hJ.out _ _ HS7.out (fun _ => ?_)
    go_simp
    refine wpAnyH_take (i := 13) (v := (.bool false)) rfl (by kernel_rfl) (by kernel_rfl) (by kernel_rfl) (fun _ _ _ h => h) (.inl ⟨rfl, fun V hS => ?y0⟩) (HS7).out ?_
    case y0 =>
      obtain ⟨s0, s1, s2, s3⟩ := hS
      go_simp
    go_simp
    skip
    have R5 : (w7).heap[w.heap.size + 1]? = some (.cells #[.slice none 0 0, .nilFunc] 104 (0, 0)) := ((B7).out.block _ (by omega)).trans HR3.out
    have r0 : (w7).cell? ⟨w.heap.size + 1, 0, none⟩ = some (.slice none 0 0) := by simp [World.cell?, R5]
    have r1 : (w7).cell? ⟨w.heap.size + 1, 1, none⟩ = some .nilFunc := by simp [World.cell?, R5]
    have rf : ∀ j, (w7).frozen? ⟨w.heap.size + 1, j, none⟩ = false := fun j => by simp [World.frozen?, R5]
    refine wpAnyH_ready (rs := [14]) (by kernel_rfl) (by simp) (AllReadyH.cons rfl (fun J hJ => ?_) AllReadyH.nil)
    go_simp
    have HSa := Lib.hid ((((HS7).out.set (o := 0) (u := .slice A1 n c1) (show w.heap.size + 1 ≠ w.heap.size by omega) (show w.heap.size + 1 ≠ w1.heap.size by omega)).set (o := 1) (u := .func (.func 116) #[] #[]) (show w.heap.size + 1 ≠ w.heap.size by omega) (show w.heap.size + 1 ≠ w1.heap.size by omega)))
    refine hJ.out _ _ HSa.out (fun _ => ?_)
    refine wpAnyH_ready (rs := [15]) (by kernel_rfl) (by simp) (AllReadyH.cons rfl (fun J hJ => ?_) AllReadyH.nil)
    go_simp
    refine hJ.out _ _ HSa.out (fun _ => ?_)
    refine wpAnyH_done (by kernel_rfl) ?_ _
    go_wp2
    refine bodyPost_ret (v := .tuple #[.agg #[.slice A1 n c1, .func (.func 116) #[] #[]], .bool false]) (by simp [results, Try.results85, go_sem, r0, r1]) rfl ⟨A1, c1, by rw [Ho.out], ?_, ?_⟩
    · refine DV.wide (lo := w.heap.size + 1 + 1) (hi := w1.heap.size) ?_ (by omega) (by simp [World.setCell]; have := (B7).out.size; omega)
      iterate 2 refine DV.setCell ?_ (by show w.heap.size + 1 < w.heap.size + 1 + 1; omega) _
      exact V3.out.below (B7).out (by omega)
    · refine ⟨?_, ?_⟩
      · iterate 2 refine Below.setCell ?_ (by show w.heap.size ≤ w.heap.size + 1; omega) _
        exact B3.out.trans ((B7).out.mono B3.out.size)
      · refine Sh.wide (lo := w.heap.size + 1 + 1) (hi := w1.heap.size) ?_ (by omega) (by simp [World.setCell]; have := (B7).out.size; omega)
        iterate 2 refine Sh.setCell ?_ (by show w.heap.size + 1 < w.heap.size + 1 + 1; omega) _
        exact S3.out.below (B7).out (by omega)
  · have Ho : Hid (okH ds q = true) := by show okH ds q = true; rw [Heq.out, Hq.out, Hn.out, Hd.out, ho]; rfl
    have Hor := Lib.hid ho
    clear ho
    refine wp_region_held_drew (S := Two w.heap.size w1.heap.size A n cap q A1 c1) (by kernel_rfl) HS3.out (fun _ => ?_)
    refine wpAnyH_take (i := 0) (v := (.agg #[.slice A1 n c1, .func (.func 116) #[] #[]])) rfl (by kernel_rfl) (by kernel_rfl) (by kernel_rfl) (fun _ _ _ h => h) (.inl ⟨rfl, fun V hS => ?y0⟩) (HS3).out ?_
    case y0 =>
      obtain ⟨s0, s1, s2, s3⟩ := hS
      go_simp
    go_simp
    refine wpAnyH_take (i := 1) (v := (.pointer (some ⟨w.heap.size, 1, none⟩))) rfl (by kernel_rfl) (by kernel_rfl) (by kernel_rfl) (fun _ _ _ h => h) (.inl ⟨rfl, fun V hS => ?y0⟩) (HS3).out ?_
    case y0 =>
      obtain ⟨s0, s1, s2, s3⟩ := hS
      go_simp
    go_simp
    refine wpAnyH_take (i := 2) (v := (.int .i64 q)) rfl (by kernel_rfl) (by kernel_rfl) (by kernel_rfl) (fun _ _ _ h => h) (.inl ⟨rfl, fun V hS => ?y0⟩) (HS3).out ?_
    case y0 =>
      obtain ⟨s0, s1, s2, s3⟩ := hS
      go_simp
    go_simp
    refine wpAnyH_ready (rs := [3]) (by kernel_rfl) (by simp) (AllReadyH.cons rfl (fun J hJ => ?_) AllReadyH.nil)
    go_simp
    refine (HTq.out _).mono ?_
    rintro e w5 ⟨rfl, b5⟩
    have B5 := Lib.hid (bel_of_drew b5)
    have HS5 := Lib.hid (HS3.out.below b5)
    clear b5
    refine hJ.out _ _ HS5.out (fun _ => ?_)
    go_simp
    refine wpAnyH_take (i := 4) (v := (.bool true)) rfl (by kernel_rfl) (by kernel_rfl) (by kernel_rfl) (fun _ _ _ h => h) (.inl ⟨rfl, fun V hS => ?y0⟩) (HS5).out ?_
    case y0 =>
      obtain ⟨s0, s1, s2, s3⟩ := hS
      go_simp
    go_simp
    refine wpAnyH_take (i := 5) (v := (.pointer (some ⟨w.heap.size, 0, none⟩))) rfl (by kernel_rfl) (by kernel_rfl) (by kernel_rfl) (fun _ _ _ h => h) (.inl ⟨rfl, fun V hS => ?y0⟩) (HS5).out ?_
    case y0 =>
      obtain ⟨s0, s1, s2, s3⟩ := hS
      go_simp
    go_simp
    refine wpAnyH_take (i := 6) (v := (.slice A n cap)) rfl (by kernel_rfl) (by kernel_rfl) (by kernel_rfl) (fun _ _ _ h => h) (.inl ⟨rfl, fun V hS => ?y0⟩) (HS5).out ?_
    case y0 =>
      obtain ⟨s0, s1, s2, s3⟩ := hS
      go_simp
    go_simp
    refine wpAnyH_take (i := 7) (v := (.pointer (some ⟨w.heap.size, 1, none⟩))) rfl (by kernel_rfl) (by kernel_rfl) (by kernel_rfl) (fun _ _ _ h => h) (.inl ⟨rfl, fun V hS => ?y0⟩) (HS5).out ?_
    case y0 =>
      obtain ⟨s0, s1, s2, s3⟩ := hS
      go_simp
    go_simp
    refine wpAnyH_take (i := 8) (v := (.int .i64 q)) rfl (by kernel_rfl) (by kernel_rfl) (by kernel_rfl) (fun _ _ _ h => h) (.inl ⟨rfl, fun V hS => ?y0⟩) (HS5).out ?_
    case y0 =>
      obtain ⟨s0, s1, s2, s3⟩ := hS
      go_simp
    go_simp
    refine wpAnyH_ready (rs := [9]) (by kernel_rfl) (by simp) (AllReadyH.cons rfl (fun J hJ => ?_) AllReadyH.nil)
    go_simp
    refine (duesOk_any A n cap lo hi ds q w5 Hn.out hm (HI.out.below (B3.out.trans (B5.out.mono B3.out.size)) hs) (Nat.le_trans hs (B3.out.trans (B5.out.mono B3.out.size)).size)).mono ?_
    rintro e w6 ⟨rfl, b6⟩
    rw [Hd.out]
    have B6 := Lib.hid (bel_trans B5.out b6)
    have HS6 := Lib.hid (HS5.out.below b6)
    clear b6
    refine hJ.out _ _ HS6.out (fun _ => ?_)
    go_simp
    refine wpAnyH_take (i := 10) (v := (.bool true)) rfl (by kernel_rfl) (by kernel_rfl) (by kernel_rfl) (fun _ _ _ h => h) (.inl ⟨rfl, fun V hS => ?y0⟩) (HS6).out ?_
    case y0 =>
      obtain ⟨s0, s1, s2, s3⟩ := hS
      go_simp
    go_simp
    refine wpAnyH_take (i := 11) (v := (.bool true)) rfl (by kernel_rfl) (by kernel_rfl) (by kernel_rfl) (fun _ _ _ h => h) (.inl ⟨rfl, fun V hS => ?y0⟩) (HS6).out ?_
    case y0 =>
      obtain ⟨s0, s1, s2, s3⟩ := hS
      go_simp
    go_simp
    skip
    refine wpAnyH_ready (rs := [12]) (by kernel_rfl) (by simp) (AllReadyH.cons rfl (fun J hJ => ?_) AllReadyH.nil)
    go_simp
    refine (ordered_any w1.heap.size A1 n c1 (w.heap.size + 1 + 1) w1.heap.size ds w6 Hn.out hm (HTr6.out _ B6.out) (V3.out.below B6.out (by omega)) (by have := B6.out.size; omega)).mono ?_
    rintro e w7 ⟨rfl, b7⟩
    rw [Hor.out]
    have B7 := Lib.hid (bel_trans B6.out b7)
    have HS7 := Lib.hid (HS6.out.below b7)
    clear b7
    refine hJ.out _ _ HS7.out (fun _ => ?_)
    go_simp
    refine wpAnyH_take (i := 13) (v := (.bool true)) rfl (by kernel_rfl) (by kernel_rfl) (by kernel_rfl) (fun _ _ _ h => h) (.inl ⟨rfl, fun V hS => ?y0⟩) (HS7).out ?_
    case y0 =>
      obtain ⟨s0, s1, s2, s3⟩ := hS
      go_simp
    go_simp
    skip
    have R5 : (w7).heap[w.heap.size + 1]? = some (.cells #[.slice none 0 0, .nilFunc] 104 (0, 0)) := ((B7).out.block _ (by omega)).trans HR3.out
    have r0 : (w7).cell? ⟨w.heap.size + 1, 0, none⟩ = some (.slice none 0 0) := by simp [World.cell?, R5]
    have r1 : (w7).cell? ⟨w.heap.size + 1, 1, none⟩ = some .nilFunc := by simp [World.cell?, R5]
    have rf : ∀ j, (w7).frozen? ⟨w.heap.size + 1, j, none⟩ = false := fun j => by simp [World.frozen?, R5]
    refine wpAnyH_ready (rs := [14]) (by kernel_rfl) (by simp) (AllReadyH.cons rfl (fun J hJ => ?_) AllReadyH.nil)
    go_simp
    have HSa := Lib.hid ((((HS7).out.set (o := 0) (u := .slice A1 n c1) (show w.heap.size + 1 ≠ w.heap.size by omega) (show w.heap.size + 1 ≠ w1.heap.size by omega)).set (o := 1) (u := .func (.func 116) #[] #[]) (show w.heap.size + 1 ≠ w.heap.size by omega) (show w.heap.size + 1 ≠ w1.heap.size by omega)))
    refine hJ.out _ _ HSa.out (fun _ => ?_)
    refine wpAnyH_ready (rs := [15]) (by kernel_rfl) (by simp) (AllReadyH.cons rfl (fun J hJ => ?_) AllReadyH.nil)
    go_simp
    refine hJ.out _ _ HSa.out (fun _ => ?_)
    refine wpAnyH_done (by kernel_rfl) ?_ _
    go_wp2
    refine bodyPost_ret (v := .tuple #[.agg #[.slice A1 n c1, .func (.func 116) #[] #[]], .bool true]) (by simp [results, Try.results85, go_sem, r0, r1]) rfl ⟨A1, c1, by rw [Ho.out], ?_, ?_⟩
    · refine DV.wide (lo := w.heap.size + 1 + 1) (hi := w1.heap.size) ?_ (by omega) (by simp [World.setCell]; have := (B7).out.size; omega)
      iterate 2 refine DV.setCell ?_ (by show w.heap.size + 1 < w.heap.size + 1 + 1; omega) _
      exact V3.out.below (B7).out (by omega)
    · refine ⟨?_, ?_⟩
      · iterate 2 refine Below.setCell ?_ (by show w.heap.size ≤ w.heap.size + 1; omega) _
        exact B3.out.trans ((B7).out.mono B3.out.size)
      · refine Sh.wide (lo := w.heap.size + 1 + 1) (hi := w1.heap.size) ?_ (by omega) (by simp [World.setCell]; have := (B7).out.size; omega)
        iterate 2 refine Sh.setCell ?_ (by show w.heap.size + 1 < w.heap.size + 1 + 1; omega) _
        exact S3.out.below (B7).out (by omega)

theorem treeOf_any (A : Option Addr) (n cap lo hi : Nat) (ds : List Du) (q : Int) (w : World) (hn : ds.length = n) (hm : n ≤ 1048576) (h : DV w lo hi A ds) (hs : hi ≤ w.heap.size) :
    Calls Try.prog 85 #[.agg #[.slice A n cap, .int .i64 q]] w (TreeEnd w n ds q) :=
  (treeOf_sh A n cap lo hi ds q w hn hm h hs).mono fun _ _ ⟨A, cap, h1, h2, h3, _⟩ => ⟨A, cap, h1, h2, h3⟩
end Go.Proofs.Ytpjelojmkmednaa.Hp

namespace Go.Proofs.Ytpjelojmkmednaa.Hp
open Go.RowKit Go.Deep Base

set_option maxRecDepth 100000 in
set_option maxHeartbeats 1000000 in
theorem implHeapOk_any (A : Option Addr) (n cap lo hi : Nat) (ds : List Du) (q : Int) (w : World) (hn : ds.length = n) (hm : n ≤ 1048576) (h : DV w lo hi A ds) (hs : hi ≤ w.heap.size) :
    Calls Try.prog 60 #[.agg #[.slice A n cap, .int .i64 q]] w fun e w' => e = .returned (.bool (okH ds q)) ∧ Below w.heap.size w w' := by
  have Hn := Lib.hid hn
  have HI := Lib.hid h
  clear hn h
  go_enter Try.func60, Try.ntmps60
  go_wp2_with fail
  refine (treeOf_any A n cap lo hi ds q _ Hn.out hm (HI.out.below (bel_alloc w _) hs) (by simp; omega)).mono ?_
  rintro e w1 ⟨A1, c1, rfl, _, b1⟩
  have B1 := Lib.hid (bel_trans (bel_alloc w _) b1)
  clear b1
  go_wp2
  go_ret
  exact ⟨rfl, bel_trans B1.out (bel_alloc _ _)⟩

/-- The law's own argument in a box. -/
def LBk (w : World) (g : Nat) (v0 v1 : Value) : Prop := w.heap[g]? = some (.cells #[v0, v1] 51 (0, 0))
theorem LBk.cells {w : World} {g : Nat} {v0 v1 : Value} (h : LBk w g v0 v1) : w.cell? ⟨g, 0, none⟩ = some v0 ∧ w.cell? ⟨g, 1, none⟩ = some v1 := by
  have hc : ∀ o, w.cell? ⟨g, o, none⟩ = #[v0, v1][o]? := fun o => cell_of_row _ _ o _ _ (0, 0) h
  refine ⟨?_, ?_⟩ <;> (rw [hc]; rfl)
theorem LBk.lt {w : World} {g : Nat} {v0 v1 : Value} (h : LBk w g v0 v1) : g < w.heap.size := (Array.getElem?_eq_some_iff.1 h).1
theorem LBk.of_block {w w' : World} {g : Nat} {v0 v1 : Value} (h : LBk w g v0 v1) (e : w'.heap[g]? = w.heap[g]?) : LBk w' g v0 v1 := e.trans h
theorem LBk.below {w w' : World} {g : Nat} {v0 v1 : Value} (h : LBk w g v0 v1) (hb : Below w.heap.size w w') : LBk w' g v0 v1 := h.of_block (hb.block g h.lt)
theorem LBk.alloc {w : World} {g : Nat} {v0 v1 : Value} (h : LBk w g v0 v1) (o : Obj) : LBk (w.alloc o) g v0 v1 := h.below (bel_alloc w o)

/-- At the laws' last comparison: the box of the kept copy and that of the argument. -/
def Pair (x a : Nat) (x0 x1 a0 a1 : Value) (V : World) : Prop := Blk2 V x x0 x1 ∧ LBk V a a0 a1


end Go.Proofs.Ytpjelojmkmednaa.Hp
