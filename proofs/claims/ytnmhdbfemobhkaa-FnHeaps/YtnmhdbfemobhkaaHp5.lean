/- What the tree's ordered answers. -/
import Derived.Test.YtnmhdbfemobhkaaHp4
import Derived.Deep.DeepCutAuto
namespace Go.Proofs.Ytnmhdbfemobhkaa.Hp
open Go.RowKit Go.Deep Base

/-- A boxed tree: its slice and its function. -/
def Tr (w : World) (g : Nat) (A : Option Addr) (n cap : Nat) : Prop := w.heap[g]? = some (.cells #[.slice A n cap, .func (.func 78) #[] #[]] 69 (0, 0))
theorem Tr.cells {w : World} {g : Nat} {A : Option Addr} {n cap : Nat} (h : Tr w g A n cap) : w.cell? ⟨g, 0, none⟩ = some (.slice A n cap) ∧ w.cell? ⟨g, 1, none⟩ = some (.func (.func 78) #[] #[]) ∧ ∀ j, w.frozen? ⟨g, j, none⟩ = false := by
  have hc : ∀ o, w.cell? ⟨g, o, none⟩ = #[.slice A n cap, .func (.func 78) #[] #[]][o]? := fun o => cell_of_row _ _ o _ _ (0, 0) h
  refine ⟨?_, ?_, fun j => by unfold Tr at h; simp [World.frozen?, h]⟩ <;> (rw [hc]; rfl)
theorem Tr.lt {w : World} {g : Nat} {A : Option Addr} {n cap : Nat} (h : Tr w g A n cap) : g < w.heap.size := (Array.getElem?_eq_some_iff.1 h).1
theorem Tr.of_block {w w' : World} {g : Nat} {A : Option Addr} {n cap : Nat} (h : Tr w g A n cap) (e : w'.heap[g]? = w.heap[g]?) : Tr w' g A n cap := e.trans h
theorem Tr.below {w w' : World} {g : Nat} {A : Option Addr} {n cap : Nat} (h : Tr w g A n cap) (hb : Below w.heap.size w w') : Tr w' g A n cap := h.of_block (hb.block g h.lt)

/-- No item ahead of its parent, up to n. -/
def ordB (ds : List Du) (n : Nat) : Bool := (List.range n).all fun i => i == 0 || !before (ds.getD i zDu) (ds.getD (par i) zDu)
theorem ordB_true {ds : List Du} {n : Nat} (h : ∀ i, 0 < i → i < n → before (ds.getD i zDu) (ds.getD (par i) zDu) = false) : ordB ds n = true := by
  unfold ordB
  rw [List.all_eq_true]
  intro i hi
  rw [List.mem_range] at hi
  by_cases e : i = 0
  · subst e; rfl
  · rw [h i (by omega) hi]; simp
theorem ordB_false {ds : List Du} {n k : Nat} (h0 : 0 < k) (hk : k < n) (h : before (ds.getD k zDu) (ds.getD (par k) zDu) = true) : ordB ds n = false := by
  cases e : ordB ds n
  · rfl
  · unfold ordB at e
    rw [List.all_eq_true] at e
    have := e k (List.mem_range.2 hk)
    rw [h] at this
    simp at this
    omega

set_option maxRecDepth 100000 in
set_option maxHeartbeats 1000000 in
theorem ordered_any (b : Nat) (A : Option Addr) (n cap lo hi : Nat) (ds : List Du) (w : World) (hn : ds.length = n) (hm : n ≤ 1048576) (ht : Tr w b A n cap) (h : DV w lo hi A ds) (hs : hi ≤ w.heap.size) :
    Calls Try.prog 80 #[.pointer (some ⟨b, 0, none⟩)] w fun e w' => e = .returned (.bool (ordB ds n)) ∧ Below w.heap.size w w' := by
  have Hn := Lib.hid hn
  have HI := Lib.hid h
  have HT := Lib.hid ht
  clear hn h ht
  go_enter Try.func80, Try.ntmps80
  go_wp2
  go_loopw [3] (fun i wr => ∃ k : Nat, 0 < k ∧ (k ≤ n ∨ k = 1) ∧ i = .int .i64 k ∧ Below w.heap.size w wr ∧ ∀ i, 0 < i → i < k → before (ds.getD i zDu) (ds.getD (par i) zDu) = false) (fun i _ => n - (intOf i).toNat)
  case atStart => exact ⟨1, by omega, .inr rfl, rfl, Below.refl _ _, fun i h0 h1 => absurd h1 (by omega)⟩
  case round =>
    obtain ⟨k, hkp, hk, rfl, hr, hq⟩ := hrel
    have Hr := Lib.hid hr
    have Hq := Lib.hid hq
    clear hr hq
    obtain ⟨x0, x1, xf⟩ := (HT.out.below Hr.out).cells
    have hbl := (HT.out.below Hr.out).lt
    by_cases hlt : k < n
    · obtain ⟨g, rfl, hg1, hg2, hrd⟩ := (HI.out.below Hr.out hs) (by have := Hn.out; omega)
      obtain ⟨c0, c1, c2, _⟩ := hrd k (by have := Hn.out; omega)
      have htd := tdiv_par k hkp
      have hpl : par k < k := by unfold par; omega
      obtain ⟨p, hp⟩ : ∃ p, par k = p := ⟨_, rfl⟩
      rw [hp] at htd hpl
      have Hp := Lib.hid hp
      clear hp
      obtain ⟨p0, p1, p2, _⟩ := hrd p (by have := Hn.out; omega)
      obtain ⟨dat, dseq, did, hd⟩ : ∃ a b c, ds.getD k zDu = ⟨a, b, c⟩ := ⟨_, _, _, rfl⟩
      rw [hd] at c0 c1 c2
      obtain ⟨pat, pseq, pid, hpd⟩ : ∃ a b c, ds.getD p zDu = ⟨a, b, c⟩ := ⟨_, _, _, rfl⟩
      rw [hpd] at p0 p1 p2
      dsimp only at p0 p1 p2 c0 c1 c2
      have Hd := Lib.hid hd
      have Hpd := Lib.hid hpd
      clear hd hpd hrd
      have hk0 : (0 : Int) ≤ (k : Int) := by omega
      have hk1 : (k : Int) < (n : Int) := by omega
      have hpi0 : (0 : Int) ≤ (p : Int) := by omega
      have hpi1 : (p : Int) < (n : Int) := by omega
      have hw1 : IntKind.i64.wrap ((k : Int) - 1) = (k : Int) - 1 := IntWalk.i64_in _ (by omega)
      have hw2 : IntKind.i64.wrap (p : Int) = (p : Int) := IntWalk.i64_in _ (by omega)
      go_wp2_with fail
      go_still_tail 20, (by kernel_rfl)
      change wpList _ _ _ _ _ wr.drew
      go_wp2_with fail
      refine (sooner_any dat dseq did pat pseq pid _).mono ?_
      rintro e w5 ⟨rfl, b5⟩
      have B5 := Lib.hid (bel_trans Hr.out (bel_of_drew b5))
      clear b5
      cases hbf : before ⟨dat, dseq, did⟩ ⟨pat, pseq, pid⟩
      · have Hbf : Hid (before (ds.getD k zDu) (ds.getD (par k) zDu) = false) := by rw [Hp.out, Hd.out, Hpd.out]; exact hbf
        clear hbf
        go_wp2
        go_roundw
        case rel =>
          refine ⟨k + 1, by omega, .inl (by omega), by go_num, B5.out, fun i h0 h1 => ?_⟩
          by_cases e : i = k
          · subst e; exact Hbf.out
          · exact Hq.out i h0 (by omega)
        case measure => simp [intOf]; omega
      · have Ho := Lib.hid (ordB_false (ds := ds) hkp hlt (by rw [Hp.out, Hd.out, Hpd.out]; exact hbf))
        clear hbf
        go_wp2
        go_ret
        exact ⟨by rw [Ho.out]; rfl, B5.out⟩
    · have Ho := Lib.hid (ordB_true (ds := ds) (n := n) (fun i h0 h1 => Hq.out i h0 (by omega)))
      go_wp2
      go_ret
      exact ⟨by rw [Ho.out]; rfl, Hr.out⟩
end Go.Proofs.Ytnmhdbfemobhkaa.Hp
