/- An item moved up: the mathematics, and the reference's walk. Two items exchanged by the program's tree. The program's moveUp. -/
import Derived.Test.YtpjelojmkmednaaLh4
namespace Go.Proofs.Ytpjelojmkmednaa.Hp
open Go.RowKit Go.Deep Base

def swapD (ds : List Du) (i j : Nat) : List Du := (ds.set i (ds.getD j zDu)).set j (ds.getD i zDu)
theorem swapD_len (ds : List Du) (i j : Nat) : (swapD ds i j).length = ds.length := by simp [swapD]
/-- The item at k moved up, with fuel. -/
def upD : Nat → List Du → Nat → List Du
  | 0, ds, _ => ds
  | F + 1, ds, k => if (decide (0 < k) && before (ds.getD k zDu) (ds.getD (par k) zDu)) = true then upD F (swapD ds k (par k)) (par k) else ds
theorem upD_stop {F : Nat} {ds : List Du} {k : Nat} (h : (decide (0 < k) && before (ds.getD k zDu) (ds.getD (par k) zDu)) = false) : upD F ds k = ds := by
  cases F with
  | zero => rfl
  | succ F => unfold upD; rw [if_neg (by rw [h]; simp)]
theorem upD_go {F : Nat} {ds : List Du} {k : Nat} (h : (decide (0 < k) && before (ds.getD k zDu) (ds.getD (par k) zDu)) = true) : upD (F + 1) ds k = upD F (swapD ds k (par k)) (par k) := by
  conv => lhs; unfold upD
  rw [if_pos h]
theorem upD_len : ∀ (F : Nat) (ds : List Du) (k : Nat), (upD F ds k).length = ds.length
  | 0, _, _ => rfl
  | F + 1, ds, k => by
    unfold upD
    split
    · rw [upD_len F, swapD_len]
    · rfl

/-- One item stored. -/
def set3 (w : World) (g i : Nat) (d : Du) : World := ((w.setCell ⟨g, i * 3, none⟩ (.int .i64 d.at)).setCell ⟨g, i * 3 + 1, none⟩ (.int .i64 d.seq)).setCell ⟨g, i * 3 + 2, none⟩ (.int .i64 d.id)
theorem Rd.set3 {w : World} {g : Nat} {ds : List Du} (h : Rd w g ds) (i : Nat) (d : Du) : Rd (Hp.set3 w g i d) g (ds.set i d) := by
  intro j hj
  rw [List.length_set] at hj
  obtain ⟨h0, h1, h2, h4⟩ := h j hj
  have hs : ∀ {o : Nat} {u : Value}, w.cell? ⟨g, o, none⟩ = some u → (w.cell? ⟨g, o, none⟩).isSome = true := fun h => by rw [h]; rfl
  have hc : ∀ {o : Nat} {u : Value}, w.cell? ⟨g, o, none⟩ = some u → (Hp.set3 w g i d).cell? ⟨g, o, none⟩ = if o = i * 3 + 2 then some (.int .i64 d.id) else if o = i * 3 + 1 then some (.int .i64 d.seq) else if o = i * 3 then some (.int .i64 d.at) else some u := fun {o u} ho => by
    unfold Hp.set3
    rw [cell_set (some_set (some_set (hs ho))), cell_set (some_set (hs ho)), cell_set (hs ho), ho]
  have hf : ∀ k, (Hp.set3 w g i d).frozen? ⟨g, k, none⟩ = false := fun k => by unfold Hp.set3; simp only [World.frozen?_setCell]; exact h4 k
  rw [hc h0, hc h1, hc h2]
  by_cases e : j = i
  · subst e
    have he : (ds.set j d).getD j zDu = d := by simp [List.getD_eq_getElem?_getD, hj]
    rw [he]
    exact ⟨by rw [if_neg (by omega), if_neg (by omega), if_pos rfl], by rw [if_neg (by omega), if_pos rfl], by rw [if_pos rfl], hf⟩
  · have he : (ds.set i d).getD j zDu = ds.getD j zDu := by
      have e' : ¬ i = j := fun h => e h.symm
      simp [List.getD_eq_getElem?_getD, e']
    rw [he]
    exact ⟨by rw [if_neg (by omega), if_neg (by omega), if_neg (by omega)], by rw [if_neg (by omega), if_neg (by omega), if_neg (by omega)], by rw [if_neg (by omega), if_neg (by omega), if_neg (by omega)], hf⟩
/-- As Turns; and a block of cells stays one of as many cells. -/
structure Tn (lo hi : Nat) (w w' : World) : Prop extends Turns lo hi w w' where
  shape : ∀ (k : Nat) (cur : Array Value) (e : TypeId), w.heap[k]? = some (.cells cur e (0, 0)) → ∃ cur', w'.heap[k]? = some (.cells cur' e (0, 0)) ∧ cur'.size = cur.size
theorem Tn.of_below {lo hi : Nat} {w w' : World} (h : Below w.heap.size w w') : Tn lo hi w w' :=
  ⟨Turns.of_below h, fun k cur _ hk => ⟨cur, (h.block k (Array.getElem?_eq_some_iff.1 hk).1).trans hk, rfl⟩⟩
theorem Tn.trans {lo hi : Nat} {a b c : World} (h : Tn lo hi a b) (k : Tn lo hi b c) : Tn lo hi a c :=
  ⟨h.toTurns.trans k.toTurns, fun i cur e hi' => by
    obtain ⟨c1, h1, s1⟩ := h.shape i cur e hi'
    obtain ⟨c2, h2, s2⟩ := k.shape i c1 e h1
    exact ⟨c2, h2, s2.trans s1⟩⟩
theorem Tn.setCell {lo hi : Nat} {a w : World} (h : Tn lo hi a w) {g o : Nat} (h1 : lo ≤ g) (h2 : g < hi) (u : Value) : Tn lo hi a (w.setCell ⟨g, o, none⟩ u) :=
  ⟨h.toTurns.setCell (p := ⟨g, o, none⟩) h1 h2 u, fun i cur e hi' => by
    obtain ⟨c1, h3, s1⟩ := h.shape i cur e hi'
    by_cases e' : i = g
    · subst e'
      exact ⟨_, heap_setCell_same w i o c1 e u h3, by simpa using s1⟩
    · exact ⟨c1, (heap_setCell_other w _ _ _ e').trans h3, s1⟩⟩
theorem Tn.wide {lo hi lo' hi' : Nat} {a w : World} (h : Tn lo hi a w) (h1 : lo' ≤ lo) (h2 : hi ≤ hi') : Tn lo' hi' a w :=
  ⟨⟨h.os, h.tape, h.output, h.size, fun k hk ho => h.block k hk (by omega)⟩, h.shape⟩
theorem Tn.set3 {lo hi : Nat} {a w : World} (h : Tn lo hi a w) {g : Nat} (h1 : lo ≤ g) (h2 : g < hi) (i : Nat) (d : Du) : Tn lo hi a (set3 w g i d) := by
  unfold Hp.set3
  exact ((h.setCell h1 h2 _).setCell h1 h2 _).setCell h1 h2 _
theorem Tn.alloc {lo hi : Nat} {a w : World} (h : Tn lo hi a w) (o : Obj) : Tn lo hi a (w.alloc o) := h.trans (Tn.of_below (bel_alloc w o))

set_option maxRecDepth 100000 in
set_option maxHeartbeats 1000000 in
theorem specUp_any (g n cap k0 : Nat) (ds : List Du) (w : World) (hn : ds.length = n) (hm : n ≤ 1048576) (hk : k0 < n) (h : Rd w g ds) (hg : g < w.heap.size) :
    Calls Try.prog 111 #[.slice (some ⟨g, 0, none⟩) n cap, .int .i64 (k0 : Int)] w fun e w' => e = .returned (.tuple #[]) ∧ Rd w' g (upD k0 ds k0) ∧ Tn g (g + 1) w w' := by
  have Hn := Lib.hid hn
  have HI := Lib.hid h
  clear hn h
  go_enter Try.func111, Try.ntmps111
  go_wp2
  go_loopw [1] (fun i wr => ∃ (k F : Nat) (es : List Du), i = .int .i64 k ∧ k < n ∧ k ≤ F ∧ upD k0 ds k0 = upD F es k ∧ es.length = n ∧ Rd wr g es ∧ Tn g (g + 1) w wr) (fun i _ => (intOf i).toNat)
  case atStart => exact ⟨k0, k0, ds, rfl, hk, Nat.le_refl _, rfl, Hn.out, HI.out, Tn.of_below (Below.refl _ _)⟩
  case round =>
    obtain ⟨k, F, es, rfl, hkn, hkF, heq, hel, hrd, ht⟩ := hrel
    have Heq := Lib.hid heq
    have Hel := Lib.hid hel
    have Hrd := Lib.hid hrd
    have Ht := Lib.hid ht
    clear heq hel hrd ht
    have hgr : g < wr.heap.size := Nat.lt_of_lt_of_le hg Ht.out.size
    have hk0' : (0 : Int) ≤ (k : Int) := by omega
    have hk1 : (k : Int) < (n : Int) := by omega
    by_cases hk00 : k = 0
    · have hkd : decide (0 < (k : Int)) = false := by simp; omega
      have hkd2 : decide (0 < k) = false := by simp; omega
      have hkn0 : ¬ 0 < k := by omega
      have Hk0 := Lib.hid hk00
      clear hk00
      go_wp2_with fail
      go_quiet (fail)
      go_wp2
      go_end0
      exact ⟨rfl, by rw [Heq.out, upD_stop (by rw [Hk0.out]; rfl)]; exact Hrd.out.of_block rfl, Ht.out.trans (Tn.of_below (below_drewN (Below.refl _ _) _))⟩
    have hkp : 0 < k := by omega
    clear hk00
    have htd := tdiv_par k hkp
    have hpl : par k < k := by unfold par; omega
    obtain ⟨p, hp⟩ : ∃ p, par k = p := ⟨_, rfl⟩
    rw [hp] at htd hpl
    have Hp := Lib.hid hp
    clear hp
    obtain ⟨c0, c1, c2, _⟩ := Hrd.out k (by have := Hel.out; omega)
    obtain ⟨p0, p1, p2, pf⟩ := Hrd.out p (by have := Hel.out; omega)
    obtain ⟨dat, dseq, did, hd⟩ : ∃ a b c, es.getD k zDu = ⟨a, b, c⟩ := ⟨_, _, _, rfl⟩
    obtain ⟨pat, pseq, pid, hpd⟩ : ∃ a b c, es.getD p zDu = ⟨a, b, c⟩ := ⟨_, _, _, rfl⟩
    rw [hd] at c0 c1 c2
    rw [hpd] at p0 p1 p2
    dsimp only at p0 p1 p2 c0 c1 c2
    have Hd := Lib.hid hd
    have Hpd := Lib.hid hpd
    clear hd hpd
    have hpi0 : (0 : Int) ≤ (p : Int) := by omega
    have hpi1 : (p : Int) < (n : Int) := by omega
    have hkd : decide (0 < (k : Int)) = true := by simp; omega
    have hw1 : IntKind.i64.wrap ((k : Int) - 1) = (k : Int) - 1 := IntWalk.i64_in _ (by omega)
    have hw2 : IntKind.i64.wrap (p : Int) = (p : Int) := IntWalk.i64_in _ (by omega)
    go_wp2_with fail
    refine wp_region_still_tail 13 (by kernel_rfl) (by kernel_rfl) ?_
    simp only [List.take_succ_cons, List.take_zero, List.drop_succ_cons, List.drop_zero]
    repeat still_step
    refine wpStill_nil ?_
    change wpList _ _ _ _ _ wr.drew
    go_wp2_with fail
    refine (specBefore_any dat dseq did pat pseq pid _).mono ?_
    rintro e w5 ⟨rfl, b5⟩
    have B5 := Lib.hid (bel_of_drew b5)
    have hz5 : wr.heap.size ≤ w5.heap.size := b5.size
    clear b5
    cases hbf : before ⟨dat, dseq, did⟩ ⟨pat, pseq, pid⟩
    · have Hst : Hid ((decide (0 < k) && before (es.getD k zDu) (es.getD (par k) zDu)) = false) := by
        show (decide (0 < k) && before (es.getD k zDu) (es.getD (par k) zDu)) = false
        rw [Hp.out, Hd.out, Hpd.out, hbf]; simp
      clear hbf
      go_wp2
      go_end0
      exact ⟨rfl, by rw [Heq.out, upD_stop Hst.out]; exact Hrd.out.of_block (B5.out.block g hgr), Ht.out.trans (Tn.of_below B5.out)⟩
    · have Hst : Hid ((decide (0 < k) && before (es.getD k zDu) (es.getD (par k) zDu)) = true) := by rw [Hp.out, Hd.out, Hpd.out, hbf, decide_eq_true hkp]; rfl
      clear hbf
      have R5 := Lib.hid (Hrd.out.of_block (B5.out.block g hgr))
      clear c0 c1 c2 p0 p1 p2 pf
      obtain ⟨c0, c1, c2, cf⟩ := R5.out k (by have := Hel.out; omega)
      obtain ⟨p0, p1, p2, _⟩ := R5.out p (by have := Hel.out; omega)
      rw [Hd.out] at c0 c1 c2
      rw [Hpd.out] at p0 p1 p2
      dsimp only at p0 p1 p2 c0 c1 c2
      have hg5 : g < w5.heap.size := by omega
      have f0 : p * 3 ≠ k * 3 := by omega
      have f1 : p * 3 ≠ k * 3 + 1 := by omega
      have f2 : p * 3 ≠ k * 3 + 2 := by omega
      have f3 : p * 3 + 1 ≠ k * 3 := by omega
      have f5 : p * 3 + 1 ≠ k * 3 + 2 := by omega
      have f6 : p * 3 + 2 ≠ k * 3 := by omega
      have f7 : p * 3 + 2 ≠ k * 3 + 1 := by omega
      have f8 : p ≠ k := by omega
      have f0' : k * 3 ≠ p * 3 := by omega
      have f1' : k * 3 + 1 ≠ p * 3 := by omega
      have f2' : k * 3 + 2 ≠ p * 3 := by omega
      have f3' : k * 3 ≠ p * 3 + 1 := by omega
      have f5' : k * 3 + 2 ≠ p * 3 + 1 := by omega
      have f6' : k * 3 ≠ p * 3 + 2 := by omega
      have f7' : k * 3 + 1 ≠ p * 3 + 2 := by omega
      have f8' : k ≠ p := by omega
      go_wp2
      go_roundw
      case rel =>
        obtain ⟨F', rfl⟩ : ∃ F', F = F' + 1 := ⟨F - 1, by omega⟩
        refine ⟨p, F', swapD es k p, rfl, by omega, by omega, by rw [Heq.out, upD_go Hst.out, Hp.out], by rw [swapD_len]; exact Hel.out, ?_, ?_⟩
        · have h1 := (R5.out.set3 k ⟨pat, pseq, pid⟩).set3 p ⟨dat, dseq, did⟩
          have h2 : swapD es k p = (es.set k ⟨pat, pseq, pid⟩).set p ⟨dat, dseq, did⟩ := by unfold swapD; rw [Hd.out, Hpd.out]
          rw [h2]
          exact h1.of_block (Below.heap_alloc _ _ _ (by simp [World.setCell]; omega))
        · refine Tn.alloc ?_ _
          have h1 := ((Ht.out.trans (Tn.of_below B5.out)).set3 (Nat.le_refl _) (Nat.lt_succ_self _) k ⟨pat, pseq, pid⟩).set3 (Nat.le_refl _) (Nat.lt_succ_self _) p ⟨dat, dseq, did⟩
          exact h1
      case measure => simp [intOf]; omega
end Go.Proofs.Ytpjelojmkmednaa.Hp

namespace Go.Proofs.Ytpjelojmkmednaa.Hp
open Go.RowKit Go.Deep Base

set_option maxRecDepth 100000 in
set_option maxHeartbeats 2000000 in
theorem exchange_any (b g n cap j k : Nat) (es : List Du) (w : World) (hn : es.length = n) (hj : j < n) (hk : k < n) (ht : Tr w b (some ⟨g, 0, none⟩) n cap) (h : Rd w g es) (hbg : b ≠ g) :
    Calls Try.prog 122 #[.pointer (some ⟨b, 0, none⟩), .int .i64 (j : Int), .int .i64 (k : Int)] w fun e w' => e = .returned (.tuple #[]) ∧ Rd w' g (swapD es j k) ∧ Tn g (g + 1) w w' := by
  have Hn := Lib.hid hn
  have HI := Lib.hid h
  obtain ⟨t0, t1, _⟩ := ht.cells
  obtain ⟨c0, c1, c2, cf⟩ := h j (by omega)
  obtain ⟨p0, p1, p2, _⟩ := h k (by omega)
  obtain ⟨dat, dseq, did, hd⟩ : ∃ a b c, es.getD j zDu = ⟨a, b, c⟩ := ⟨_, _, _, rfl⟩
  obtain ⟨pat, pseq, pid, hpd⟩ : ∃ a b c, es.getD k zDu = ⟨a, b, c⟩ := ⟨_, _, _, rfl⟩
  rw [hd] at c0 c1 c2
  rw [hpd] at p0 p1 p2
  dsimp only at p0 p1 p2 c0 c1 c2
  have Hd := Lib.hid hd
  have Hpd := Lib.hid hpd
  have hgb : g ≠ b := fun e => hbg e.symm
  have HS0 : Hid (w.drew.cell? ⟨b, 0, none⟩ = some (.slice (some ⟨g, 0, none⟩) n cap)) := t0
  have hbw : b < w.heap.size := ht.lt
  clear hd hpd hn h ht
  have hj0 : (0 : Int) ≤ (j : Int) := by omega
  have hj1 : (j : Int) < (n : Int) := by omega
  have hk0 : (0 : Int) ≤ (k : Int) := by omega
  have hk1 : (k : Int) < (n : Int) := by omega
  have HR1 := Lib.hid (HI.out.set3 j ⟨pat, pseq, pid⟩)
  have HT1 : Hid (Tn g (g + 1) w (set3 w g j ⟨pat, pseq, pid⟩)) := (Tn.of_below (Below.refl _ _)).set3 (Nat.le_refl _) (Nat.lt_succ_self _) j _
  go_enter Try.func122, Try.ntmps122
  go_wp2_with fail
  refine wp_region_held_drew (S := fun V => V.cell? ⟨b, 0, none⟩ = some (.slice (some ⟨g, 0, none⟩) n cap)) (by kernel_rfl) HS0.out (fun _ => ?_)
  refine wpAnyH_take (i := 0) (v := (.pointer (some ⟨b, 0, none⟩))) rfl (by kernel_rfl) (by kernel_rfl) (by kernel_rfl) (fun _ _ _ h => h) (.inl ⟨rfl, fun V hS => ?y0⟩) (HS0).out ?_
  case y0 =>
    go_simp
  go_simp
  refine wpAnyH_take (i := 1) (v := (.pointer (some ⟨b, 0, none⟩))) rfl (by kernel_rfl) (by kernel_rfl) (by kernel_rfl) (fun _ _ _ h => h) (.inl ⟨rfl, fun V hS => ?y0⟩) (HS0).out ?_
  case y0 =>
    go_simp
  go_simp
  refine wpAnyH_take (i := 2) (v := (.pointer (some ⟨b, 0, none⟩))) rfl (by kernel_rfl) (by kernel_rfl) (by kernel_rfl) (fun _ _ _ h => h) (.inl ⟨rfl, fun V hS => ?y0⟩) (HS0).out ?_
  case y0 =>
    go_simp
  go_simp
  refine wpAnyH_take (i := 3) (v := (.slice (some ⟨g, 0, none⟩) n cap)) rfl (by kernel_rfl) (by kernel_rfl) (by kernel_rfl) (fun _ _ _ h => h) (.inl ⟨rfl, fun V hS => ?y0⟩) (HS0).out ?_
  case y0 =>
    go_simp
  go_simp
  refine wpAnyH_take (i := 4) (v := (.int .i64 (j : Int))) rfl (by kernel_rfl) (by kernel_rfl) (by kernel_rfl) (fun _ _ _ h => h) (.inl ⟨rfl, fun V hS => ?y0⟩) (HS0).out ?_
  case y0 =>
    go_simp
  go_simp
  refine wpAnyH_take (i := 5) (v := (.pointer (some ⟨b, 0, none⟩))) rfl (by kernel_rfl) (by kernel_rfl) (by kernel_rfl) (fun _ _ _ h => h) (.inl ⟨rfl, fun V hS => ?y0⟩) (HS0).out ?_
  case y0 =>
    go_simp
  go_simp
  refine wpAnyH_take (i := 6) (v := (.pointer (some ⟨b, 0, none⟩))) rfl (by kernel_rfl) (by kernel_rfl) (by kernel_rfl) (fun _ _ _ h => h) (.inl ⟨rfl, fun V hS => ?y0⟩) (HS0).out ?_
  case y0 =>
    go_simp
  go_simp
  refine wpAnyH_take (i := 7) (v := (.pointer (some ⟨b, 0, none⟩))) rfl (by kernel_rfl) (by kernel_rfl) (by kernel_rfl) (fun _ _ _ h => h) (.inl ⟨rfl, fun V hS => ?y0⟩) (HS0).out ?_
  case y0 =>
    go_simp
  go_simp
  refine wpAnyH_take (i := 8) (v := (.slice (some ⟨g, 0, none⟩) n cap)) rfl (by kernel_rfl) (by kernel_rfl) (by kernel_rfl) (fun _ _ _ h => h) (.inl ⟨rfl, fun V hS => ?y0⟩) (HS0).out ?_
  case y0 =>
    go_simp
  go_simp
  refine wpAnyH_take (i := 9) (v := (.int .i64 (k : Int))) rfl (by kernel_rfl) (by kernel_rfl) (by kernel_rfl) (fun _ _ _ h => h) (.inl ⟨rfl, fun V hS => ?y0⟩) (HS0).out ?_
  case y0 =>
    go_simp
  go_simp
  refine wpAnyH_take (i := 10) (v := (.pointer (some ⟨b, 0, none⟩))) rfl (by kernel_rfl) (by kernel_rfl) (by kernel_rfl) (fun _ _ _ h => h) (.inl ⟨rfl, fun V hS => ?y0⟩) (HS0).out ?_
  case y0 =>
    go_simp
  go_simp
  refine wpAnyH_take (i := 11) (v := (.pointer (some ⟨b, 0, none⟩))) rfl (by kernel_rfl) (by kernel_rfl) (by kernel_rfl) (fun _ _ _ h => h) (.inl ⟨rfl, fun V hS => ?y0⟩) (HS0).out ?_
  case y0 =>
    go_simp
  go_simp
  refine wpAnyH_take (i := 12) (v := (.pointer (some ⟨b, 0, none⟩))) rfl (by kernel_rfl) (by kernel_rfl) (by kernel_rfl) (fun _ _ _ h => h) (.inl ⟨rfl, fun V hS => ?y0⟩) (HS0).out ?_
  case y0 =>
    go_simp
  go_simp
  refine wpAnyH_take (i := 13) (v := (.slice (some ⟨g, 0, none⟩) n cap)) rfl (by kernel_rfl) (by kernel_rfl) (by kernel_rfl) (fun _ _ _ h => h) (.inl ⟨rfl, fun V hS => ?y0⟩) (HS0).out ?_
  case y0 =>
    go_simp
  go_simp
  refine wpAnyH_take (i := 14) (v := (.int .i64 (k : Int))) rfl (by kernel_rfl) (by kernel_rfl) (by kernel_rfl) (fun _ _ _ h => h) (.inl ⟨rfl, fun V hS => ?y0⟩) (HS0).out ?_
  case y0 =>
    go_simp
  go_simp
  refine wpAnyH_take (i := 15) (v := (.pointer (some ⟨g, k * 3, none⟩))) rfl (by kernel_rfl) (by kernel_rfl) (by kernel_rfl) (fun _ _ _ h => h) (.inl ⟨rfl, fun V hS => ?y0⟩) (HS0).out ?_
  case y0 =>
    go_simp
  go_simp
  refine wpAnyH_take (i := 17) (v := (.pointer (some ⟨b, 0, none⟩))) rfl (by kernel_rfl) (by kernel_rfl) (by kernel_rfl) (fun _ _ _ h => h) (.inl ⟨rfl, fun V hS => ?y0⟩) (HS0).out ?_
  case y0 =>
    go_simp
  go_simp
  refine wpAnyH_take (i := 18) (v := (.pointer (some ⟨b, 0, none⟩))) rfl (by kernel_rfl) (by kernel_rfl) (by kernel_rfl) (fun _ _ _ h => h) (.inl ⟨rfl, fun V hS => ?y0⟩) (HS0).out ?_
  case y0 =>
    go_simp
  go_simp
  refine wpAnyH_take (i := 19) (v := (.pointer (some ⟨b, 0, none⟩))) rfl (by kernel_rfl) (by kernel_rfl) (by kernel_rfl) (fun _ _ _ h => h) (.inl ⟨rfl, fun V hS => ?y0⟩) (HS0).out ?_
  case y0 =>
    go_simp
  go_simp
  refine wpAnyH_take (i := 20) (v := (.slice (some ⟨g, 0, none⟩) n cap)) rfl (by kernel_rfl) (by kernel_rfl) (by kernel_rfl) (fun _ _ _ h => h) (.inl ⟨rfl, fun V hS => ?y0⟩) (HS0).out ?_
  case y0 =>
    go_simp
  go_simp
  refine wpAnyH_take (i := 21) (v := (.int .i64 (j : Int))) rfl (by kernel_rfl) (by kernel_rfl) (by kernel_rfl) (fun _ _ _ h => h) (.inl ⟨rfl, fun V hS => ?y0⟩) (HS0).out ?_
  case y0 =>
    go_simp
  go_simp
  refine wpAnyH_take (i := 22) (v := (.pointer (some ⟨g, j * 3, none⟩))) rfl (by kernel_rfl) (by kernel_rfl) (by kernel_rfl) (fun _ _ _ h => h) (.inl ⟨rfl, fun V hS => ?y0⟩) (HS0).out ?_
  case y0 =>
    go_simp
  go_simp
  refine wpAnyH_ready (rs := [16, 23]) (by kernel_rfl) (by simp) (AllReadyH.cons rfl (fun J hJ => ?_) (AllReadyH.cons rfl (fun J hJ => ?_) AllReadyH.nil))
  · go_simp
    refine hJ.out _ _ HS0.out (fun _ => ?_)
    clear hJ J
    refine wpAnyH_ready (rs := [23]) (by kernel_rfl) (by simp) (AllReadyH.cons rfl (fun J hJ => ?_) AllReadyH.nil)
    go_simp
    refine hJ.out _ _ HS0.out (fun _ => ?_)
    clear hJ J
    refine wpAnyH_take (i := 24) (v := (.pointer (some ⟨g, j * 3, none⟩))) rfl (by kernel_rfl) (by kernel_rfl) (by kernel_rfl) (fun _ _ _ h => h) (.inl ⟨rfl, fun V hS => ?y0⟩) (HS0).out ?_
    case y0 =>
      go_simp
    go_simp
    refine wpAnyH_ready (rs := [25]) (by kernel_rfl) (by simp) (AllReadyH.cons rfl (fun J hJ => ?_) AllReadyH.nil)
    go_simp
    obtain ⟨W1, hW1⟩ : ∃ W1, (((w.setCell ⟨g, j * 3, none⟩ (.int .i64 pat)).setCell ⟨g, j * 3 + 1, none⟩ (.int .i64 pseq)).setCell ⟨g, j * 3 + 2, none⟩ (.int .i64 pid)).drew = W1 := ⟨_, rfl⟩
    have R1 : Hid (Rd W1 g (es.set j ⟨pat, pseq, pid⟩)) := by rw [← hW1]; exact HR1.out.of_block rfl
    have T1 : Hid (Tn g (g + 1) w W1) := by rw [← hW1]; exact HT1.out.trans (Tn.of_below (Below.refl _ _).drew)
    rw [hW1]
    clear hW1 c0 c1 c2 p0 p1 p2 cf
    have HS1 : Hid (W1.cell? ⟨b, 0, none⟩ = some (.slice (some ⟨g, 0, none⟩) n cap)) := (World.cell?_of_block (w := w) (T1.out.block b hbw (by omega))).trans HS0.out
    refine hJ.out _ _ HS1.out (fun _ => ?_)
    clear hJ J
    obtain ⟨c0, c1, c2, cf⟩ := R1.out k (by rw [List.length_set, Hn.out]; exact hk)
    generalize (es.set j ⟨pat, pseq, pid⟩).getD k zDu = x at c0 c1 c2
    refine wpAnyH_take (i := 26) (v := (.pointer (some ⟨g, k * 3, none⟩))) rfl (by kernel_rfl) (by kernel_rfl) (by kernel_rfl) (fun _ _ _ h => h) (.inl ⟨rfl, fun V hS => ?y0⟩) (HS1).out ?_
    case y0 =>
      go_simp
    go_simp
    refine wpAnyH_ready (rs := [27]) (by kernel_rfl) (by simp) (AllReadyH.cons rfl (fun J hJ => ?_) AllReadyH.nil)
    go_simp
    have HS2 : Hid ((set3 W1 g k ⟨dat, dseq, did⟩).cell? ⟨b, 0, none⟩ = some (.slice (some ⟨g, 0, none⟩) n cap)) := (World.cell?_of_block (w := w) (((T1.out.set3 (Nat.le_refl _) (Nat.lt_succ_self _) k ⟨dat, dseq, did⟩)).block b hbw (by omega))).trans HS0.out
    refine hJ.out _ _ HS2.out (fun _ => ?_)
    clear hJ J
    refine wpAnyH_done (by kernel_rfl) ?_ _
    go_wp2
    go_end0
    refine ⟨rfl, ?_, ?_⟩
    · have h2 : swapD es j k = (es.set j ⟨pat, pseq, pid⟩).set k ⟨dat, dseq, did⟩ := by unfold swapD; rw [Hd.out, Hpd.out]
      rw [h2]
      exact (R1.out.set3 k ⟨dat, dseq, did⟩).of_block rfl
    · exact T1.out.set3 (Nat.le_refl _) (Nat.lt_succ_self _) k ⟨dat, dseq, did⟩
  · go_simp
    refine hJ.out _ _ HS0.out (fun _ => ?_)
    clear hJ J
    refine wpAnyH_ready (rs := [16]) (by kernel_rfl) (by simp) (AllReadyH.cons rfl (fun J hJ => ?_) AllReadyH.nil)
    go_simp
    refine hJ.out _ _ HS0.out (fun _ => ?_)
    clear hJ J
    refine wpAnyH_take (i := 24) (v := (.pointer (some ⟨g, j * 3, none⟩))) rfl (by kernel_rfl) (by kernel_rfl) (by kernel_rfl) (fun _ _ _ h => h) (.inl ⟨rfl, fun V hS => ?y0⟩) (HS0).out ?_
    case y0 =>
      go_simp
    go_simp
    refine wpAnyH_ready (rs := [25]) (by kernel_rfl) (by simp) (AllReadyH.cons rfl (fun J hJ => ?_) AllReadyH.nil)
    go_simp
    obtain ⟨W1, hW1⟩ : ∃ W1, (((w.setCell ⟨g, j * 3, none⟩ (.int .i64 pat)).setCell ⟨g, j * 3 + 1, none⟩ (.int .i64 pseq)).setCell ⟨g, j * 3 + 2, none⟩ (.int .i64 pid)).drew = W1 := ⟨_, rfl⟩
    have R1 : Hid (Rd W1 g (es.set j ⟨pat, pseq, pid⟩)) := by rw [← hW1]; exact HR1.out.of_block rfl
    have T1 : Hid (Tn g (g + 1) w W1) := by rw [← hW1]; exact HT1.out.trans (Tn.of_below (Below.refl _ _).drew)
    rw [hW1]
    clear hW1 c0 c1 c2 p0 p1 p2 cf
    have HS1 : Hid (W1.cell? ⟨b, 0, none⟩ = some (.slice (some ⟨g, 0, none⟩) n cap)) := (World.cell?_of_block (w := w) (T1.out.block b hbw (by omega))).trans HS0.out
    refine hJ.out _ _ HS1.out (fun _ => ?_)
    clear hJ J
    obtain ⟨c0, c1, c2, cf⟩ := R1.out k (by rw [List.length_set, Hn.out]; exact hk)
    generalize (es.set j ⟨pat, pseq, pid⟩).getD k zDu = x at c0 c1 c2
    refine wpAnyH_take (i := 26) (v := (.pointer (some ⟨g, k * 3, none⟩))) rfl (by kernel_rfl) (by kernel_rfl) (by kernel_rfl) (fun _ _ _ h => h) (.inl ⟨rfl, fun V hS => ?y0⟩) (HS1).out ?_
    case y0 =>
      go_simp
    go_simp
    refine wpAnyH_ready (rs := [27]) (by kernel_rfl) (by simp) (AllReadyH.cons rfl (fun J hJ => ?_) AllReadyH.nil)
    go_simp
    have HS2 : Hid ((set3 W1 g k ⟨dat, dseq, did⟩).cell? ⟨b, 0, none⟩ = some (.slice (some ⟨g, 0, none⟩) n cap)) := (World.cell?_of_block (w := w) (((T1.out.set3 (Nat.le_refl _) (Nat.lt_succ_self _) k ⟨dat, dseq, did⟩)).block b hbw (by omega))).trans HS0.out
    refine hJ.out _ _ HS2.out (fun _ => ?_)
    clear hJ J
    refine wpAnyH_done (by kernel_rfl) ?_ _
    go_wp2
    go_end0
    refine ⟨rfl, ?_, ?_⟩
    · have h2 : swapD es j k = (es.set j ⟨pat, pseq, pid⟩).set k ⟨dat, dseq, did⟩ := by unfold swapD; rw [Hd.out, Hpd.out]
      rw [h2]
      exact (R1.out.set3 k ⟨dat, dseq, did⟩).of_block rfl
    · exact T1.out.set3 (Nat.le_refl _) (Nat.lt_succ_self _) k ⟨dat, dseq, did⟩
end Go.Proofs.Ytpjelojmkmednaa.Hp

namespace Go.Proofs.Ytpjelojmkmednaa.Hp
open Go.RowKit Go.Deep Base

theorem tdiv_par' (k : Nat) : ((k : Int) - 1).tdiv 2 = (par k : Int) := by
  by_cases h : 0 < k
  · exact tdiv_par k h
  · obtain rfl : k = 0 := by omega
    rfl

theorem Tr.tn {w w' : World} {b g : Nat} {A : Option Addr} {n cap : Nat} (h : Tr w b A n cap) (t : Tn g (g + 1) w w') (hbg : b ≠ g) : Tr w' b A n cap := h.of_block (t.block b h.lt (by omega))

set_option maxRecDepth 100000 in
set_option maxHeartbeats 1000000 in
theorem moveUp_any (b g n cap k0 : Nat) (ds : List Du) (w : World) (hn : ds.length = n) (hm : n ≤ 1048576) (hk : k0 < n) (ht : Tr w b (some ⟨g, 0, none⟩) n cap) (h : Rd w g ds) (hg : g < w.heap.size) (hbg : b ≠ g) :
    Calls Try.prog 123 #[.pointer (some ⟨b, 0, none⟩), .int .i64 (k0 : Int)] w fun e w' => e = .returned (.tuple #[]) ∧ Rd w' g (upD k0 ds k0) ∧ Tn g (g + 1) w w' := by
  have Hn := Lib.hid hn
  have HI := Lib.hid h
  have HT := Lib.hid ht
  clear hn h ht
  have hk0i : (0 : Int) ≤ (k0 : Int) := by omega
  have hk1i : (k0 : Int) < (n : Int) := by omega
  have htd0 := tdiv_par' k0
  have hpl0 : par k0 ≤ k0 := by unfold par; omega
  obtain ⟨p0, hp0⟩ : ∃ p0, par k0 = p0 := ⟨_, rfl⟩
  rw [hp0] at htd0 hpl0
  have Hp0 := Lib.hid hp0
  clear hp0
  have hw10 : IntKind.i64.wrap ((k0 : Int) - 1) = (k0 : Int) - 1 := IntWalk.i64_in _ (by omega)
  have hw20 : IntKind.i64.wrap (p0 : Int) = (p0 : Int) := IntWalk.i64_in _ (by omega)
  go_enter Try.func123, Try.ntmps123
  go_wp2
  clear hw10 hw20 htd0
  go_loopw [1, 4] (fun i q wr => ∃ (k F : Nat) (es : List Du), i = .int .i64 k ∧ q = .int .i64 (par k) ∧ k < n ∧ k ≤ F ∧ upD k0 ds k0 = upD F es k ∧ es.length = n ∧ Rd wr g es ∧ Tn g (g + 1) w wr) (fun i _ _ => (intOf i).toNat)
  case atStart => exact ⟨k0, k0, ds, rfl, by rw [Hp0.out], hk, Nat.le_refl _, rfl, Hn.out, HI.out, Tn.of_below (Below.refl _ _)⟩
  case round =>
    obtain ⟨k, F, es, rfl, rfl, hkn, hkF, heq, hel, hrd, ht⟩ := hrel
    have Heq := Lib.hid heq
    have Hel := Lib.hid hel
    have Hrd := Lib.hid hrd
    have Ht := Lib.hid ht
    clear heq hel hrd ht hk0i hk1i hpl0
    have hgr : g < wr.heap.size := Nat.lt_of_lt_of_le hg Ht.out.size
    have HTr := Lib.hid (HT.out.tn Ht.out hbg)
    obtain ⟨t0, t1, _⟩ := HTr.out.cells
    have hbl := HTr.out.lt
    have hk0' : (0 : Int) ≤ (k : Int) := by omega
    have hk1 : (k : Int) < (n : Int) := by omega
    obtain ⟨p, hp⟩ : ∃ p, par k = p := ⟨_, rfl⟩
    rw [hp]
    have Hp := Lib.hid hp
    clear hp
    by_cases hk00 : k = 0
    · have hkd : decide (0 < (k : Int)) = false := by simp; omega
      have hkd2 : decide (0 < k) = false := by simp; omega
      have hkn0 : ¬ 0 < k := by omega
      have Hk0 := Lib.hid hk00
      clear hk00
      go_wp2_with fail
      go_quiet (fail)
      go_wp2
      go_end0
      exact ⟨rfl, by rw [Heq.out, upD_stop (by rw [Hk0.out]; rfl)]; exact Hrd.out.of_block rfl, Ht.out.trans (Tn.of_below (below_drewN (Below.refl _ _) _))⟩
    have hkp : 0 < k := by omega
    clear hk00
    have hpl : p < k := by have := Hp.out; unfold par at this; omega
    obtain ⟨c0, c1, c2, _⟩ := Hrd.out k (by have := Hel.out; omega)
    obtain ⟨q0, q1, q2, qf⟩ := Hrd.out p (by have := Hel.out; omega)
    obtain ⟨dat, dseq, did, hd⟩ : ∃ a b c, es.getD k zDu = ⟨a, b, c⟩ := ⟨_, _, _, rfl⟩
    obtain ⟨pat, pseq, pid, hpd⟩ : ∃ a b c, es.getD p zDu = ⟨a, b, c⟩ := ⟨_, _, _, rfl⟩
    rw [hd] at c0 c1 c2
    rw [hpd] at q0 q1 q2
    dsimp only at q0 q1 q2 c0 c1 c2
    have Hd := Lib.hid hd
    have Hpd := Lib.hid hpd
    clear hd hpd
    have hpi0 : (0 : Int) ≤ (p : Int) := by omega
    have hpi1 : (p : Int) < (n : Int) := by omega
    have hkd : decide (0 < (k : Int)) = true := by simp; omega
    go_wp2_with fail
    refine wp_region_still_tail 21 (by kernel_rfl) (by kernel_rfl) ?_
    simp only [List.take_succ_cons, List.take_zero, List.drop_succ_cons, List.drop_zero]
    repeat still_step
    refine wpStill_nil ?_
    change wpList _ _ _ _ _ wr.drew
    go_wp2_with fail
    refine (sooner_any dat dseq did pat pseq pid _).mono ?_
    rintro e w5 ⟨rfl, b5⟩
    have B5 := Lib.hid (bel_of_drew b5)
    have hz5 : wr.heap.size ≤ w5.heap.size := b5.size
    clear b5 c0 c1 c2 q0 q1 q2 qf t0 t1
    cases hbf : before ⟨dat, dseq, did⟩ ⟨pat, pseq, pid⟩
    · have Hst : Hid ((decide (0 < k) && before (es.getD k zDu) (es.getD (par k) zDu)) = false) := by
        show (decide (0 < k) && before (es.getD k zDu) (es.getD (par k) zDu)) = false
        rw [Hp.out, Hd.out, Hpd.out, hbf]; simp
      clear hbf
      go_wp2
      go_end0
      exact ⟨rfl, by rw [Heq.out, upD_stop Hst.out]; exact Hrd.out.of_block (B5.out.block g hgr), Ht.out.trans (Tn.of_below B5.out)⟩
    · have Hst : Hid ((decide (0 < k) && before (es.getD k zDu) (es.getD (par k) zDu)) = true) := by rw [Hp.out, Hd.out, Hpd.out, hbf, decide_eq_true hkp]; rfl
      clear hbf
      go_wp2_with fail
      refine (exchange_any b g n cap k p es w5 Hel.out hkn (by omega) (HTr.out.below B5.out) (Hrd.out.of_block (B5.out.block g hgr)) hbg).mono ?_
      rintro e w6 ⟨rfl, rd6, t6⟩
      have R6 := Lib.hid rd6
      have T6 := Lib.hid ((Ht.out.trans (Tn.of_below B5.out)).trans t6)
      clear rd6 t6
      have htd := tdiv_par' p
      have hppl : par p ≤ p := by unfold par; omega
      obtain ⟨pp, hpp⟩ : ∃ pp, par p = pp := ⟨_, rfl⟩
      rw [hpp] at htd hppl
      have Hpp := Lib.hid hpp
      clear hpp
      have hw1 : IntKind.i64.wrap ((p : Int) - 1) = (p : Int) - 1 := IntWalk.i64_in _ (by omega)
      have hw2 : IntKind.i64.wrap (pp : Int) = (pp : Int) := IntWalk.i64_in _ (by omega)
      go_wp2
      go_roundw
      case rel =>
        obtain ⟨F', rfl⟩ : ∃ F', F = F' + 1 := ⟨F - 1, by omega⟩
        exact ⟨p, F', swapD es k p, rfl, by rw [Hpp.out], by omega, by omega, by rw [Heq.out, upD_go Hst.out, Hp.out], by rw [swapD_len]; exact Hel.out, R6.out, T6.out⟩
      case measure => simp [intOf]; omega
end Go.Proofs.Ytpjelojmkmednaa.Hp
