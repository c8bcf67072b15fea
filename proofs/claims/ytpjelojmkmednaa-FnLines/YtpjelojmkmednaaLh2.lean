/- The copy of any slice of items. What the tree's ordered answers. -/
import Derived.Test.YtpjelojmkmednaaLh1
import Derived.Maps.AppendAt
import Derived.Lib.SliceRun
import Derived.Deep.DeepCutAuto
namespace Go.Proofs.Ytpjelojmkmednaa.Hp
open Go.RowKit Go.Deep Base

def Du.cells (s : Du) : List Value := [.int .i64 s.at, .int .i64 s.seq, .int .i64 s.id]
def cellsL : List Du → List Value
  | [] => []
  | s :: r => s.cells ++ cellsL r
theorem cellsL_append (a b : List Du) : cellsL (a ++ b) = cellsL a ++ cellsL b := by
  induction a with
  | nil => rfl
  | cons s r ih => simp only [List.cons_append, cellsL, ih, List.append_assoc]
theorem cellsL_len (a : List Du) : (cellsL a).length = a.length * 3 := by
  induction a with
  | nil => rfl
  | cons s r ih => simp only [cellsL, List.length_append, ih, Du.cells, List.length_cons, List.length_nil]; omega
theorem cellsL_at : ∀ (ds : List Du) (i j : Nat), i < ds.length → j < 3 → (cellsL ds)[i * 3 + j]? = (ds.getD i zDu).cells[j]?
  | [], i, j, h, _ => by simp at h
  | s :: r, 0, j, _, hj => by
    simp only [cellsL, Nat.zero_mul, Nat.zero_add, List.getD_cons_zero]
    rw [List.getElem?_append_left (by simp [Du.cells]; omega)]
  | s :: r, i + 1, j, h, hj => by
    simp only [cellsL, List.getD_cons_succ]
    rw [List.getElem?_append_right (by simp [Du.cells]; omega)]
    rw [show (i + 1) * 3 + j - s.cells.length = i * 3 + j from by simp [Du.cells]; omega]
    exact cellsL_at r i j (by simp at h; omega) hj

theorem owns_form {w : World} {base : Nat} {e : TypeId} {size n : Nat} {v : Value} {xs : List Value} (h : w.ownsRow base e size v n xs) : ∃ A cap, v = .slice A n cap := by
  rcases h.2 with ⟨rfl, rfl⟩ | ⟨g, cap, _, rfl, _⟩
  · exact ⟨none, 0, rfl⟩
  · exact ⟨_, cap, rfl⟩
theorem rd_owns {w : World} {base g n cap : Nat} {ds : List Du} (hn : ds.length = n) (h : w.ownsRow base 80 3 (.slice (some ⟨g, 0, none⟩) n cap) n (cellsL ds)) : Rd w g ds := by
  intro i hi
  have hc : ∀ j, j < 3 → w.cell? ⟨g, i * 3 + j, none⟩ = (ds.getD i zDu).cells[j]? := fun j hj => (h.cellAt (i * 3 + j) (by omega)).trans (cellsL_at ds i j hi hj)
  exact ⟨(hc 0 (by omega)).trans rfl, (hc 1 (by omega)).trans rfl, (hc 2 (by omega)).trans rfl, fun j => h.frozenAt j⟩
theorem dv_owns {w : World} {base n cap : Nat} {A : Option Addr} {ds : List Du} (hn : ds.length = n) (h : w.ownsRow base 80 3 (.slice A n cap) n (cellsL ds)) : DV w base w.heap.size A ds := by
  intro hp
  rcases h.2 with ⟨_, h0⟩ | ⟨g, cap', cur, hv, hb, hg, _⟩
  · omega
  · injection hv with hA _ _
    subst hA
    exact ⟨g, rfl, hb, (h.lt g rfl).2, rd_owns hn h⟩

/-- A slice of items is nil, or it has a block of its own, from lo on and ahead of hi, with as many items as its capacity says. -/
def Sh (w : World) (lo hi : Nat) (A : Option Addr) (n cap : Nat) : Prop :=
  (A = none ∧ n = 0 ∧ cap = 0) ∨ ∃ g cur, A = some ⟨g, 0, none⟩ ∧ lo ≤ g ∧ g < hi ∧ w.heap[g]? = some (.cells cur 80 (0, 0)) ∧ n ≤ cap ∧ cap ≤ maxLen ∧ cur.size = cap * 3
theorem sh_owns {w : World} {base n cap : Nat} {A : Option Addr} {xs : List Value} (h : w.ownsRow base 80 3 (.slice A n cap) n xs) : Sh w base w.heap.size A n cap := by
  rcases h.2 with ⟨hv, h0⟩ | ⟨g, cap', cur, hv, hb, hg, h1, h2, h3, _⟩
  · injection hv with a b c
    exact .inl ⟨a, b, c⟩
  · injection hv with hA _ hc
    subst hA hc
    exact .inr ⟨g, cur, rfl, hb, (h.lt g rfl).2, hg, h1, h2, h3⟩
theorem Sh.of_block {w w' : World} {lo hi n cap : Nat} {A : Option Addr} (h : Sh w lo hi A n cap) (e : ∀ g, lo ≤ g → g < hi → w'.heap[g]? = w.heap[g]?) : Sh w' lo hi A n cap := by
  rcases h with h | ⟨g, cur, h0, h1, h2, h3, h4⟩
  · exact .inl h
  · exact .inr ⟨g, cur, h0, h1, h2, (e g h1 h2).trans h3, h4⟩
theorem Sh.below {w w' : World} {lo hi n cap B : Nat} {A : Option Addr} (h : Sh w lo hi A n cap) (hb : Below B w w') (hB : hi ≤ B) : Sh w' lo hi A n cap := h.of_block fun g _ h2 => hb.block g (by omega)
theorem Sh.wide {w : World} {lo hi lo' hi' n cap : Nat} {A : Option Addr} (h : Sh w lo hi A n cap) (h1 : lo' ≤ lo) (h2 : hi ≤ hi') : Sh w lo' hi' A n cap := by
  rcases h with h | ⟨g, cur, h0, h3, h4, h5⟩
  · exact .inl h
  · exact .inr ⟨g, cur, h0, by omega, by omega, h5⟩
theorem Sh.setCell {w : World} {lo hi n cap : Nat} {A : Option Addr} (h : Sh w lo hi A n cap) {p : Addr} (hp : p.block < lo) (u : Value) : Sh (w.setCell p u) lo hi A n cap := h.of_block fun g h1 _ => Below.heap_setCell w p u g (by omega)

/-- What a call that hands back a new slice of items leaves. -/
def NewD (w : World) (n : Nat) (ds : List Du) (e : Ending) (w' : World) : Prop :=
  ∃ A cap, e = .returned (.slice A n cap) ∧ DV w' w.heap.size w'.heap.size A ds ∧ Below w.heap.size w w'
/-- The same, with its block's form. -/
def NewS (w : World) (n : Nat) (ds : List Du) (e : Ending) (w' : World) : Prop :=
  ∃ A cap, e = .returned (.slice A n cap) ∧ DV w' w.heap.size w'.heap.size A ds ∧ Below w.heap.size w w' ∧ Sh w' w.heap.size w'.heap.size A n cap
theorem NewS.newD {w : World} {n : Nat} {ds : List Du} {e : Ending} {w' : World} (h : NewS w n ds e w') : NewD w n ds e w' := by
  obtain ⟨A, cap, h1, h2, h3, _⟩ := h
  exact ⟨A, cap, h1, h2, h3⟩

theorem news_rd {w : World} {g : Nat} {ds : List Du} (h : Rd w g ds) : ∀ j u, (cellsL ds)[j]? = some u → w.cell? ((⟨g, 0, none⟩ : Addr).add j) = some u := by
  intro j u hj
  have hlt : j < (cellsL ds).length := (List.getElem?_eq_some_iff.1 hj).1
  rw [cellsL_len] at hlt
  have ea : (⟨g, 0, none⟩ : Addr).add j = ⟨g, j, none⟩ := by
    unfold Addr.add; split
    · next h => subst h; rfl
    · simp
  rw [ea]
  have hi : j / 3 < ds.length := by omega
  have e := cellsL_at ds (j / 3) (j % 3) hi (by omega)
  rw [show j / 3 * 3 + j % 3 = j from by omega, hj] at e
  obtain ⟨h0, h1, h2, _⟩ := h (j / 3) hi
  have hm : j % 3 = 0 ∨ j % 3 = 1 ∨ j % 3 = 2 := by omega
  rcases hm with hm | hm | hm <;> rw [hm] at e <;> simp [Du.cells] at e <;> subst e
  · rw [show j = j / 3 * 3 from by omega]; simpa [List.getD_eq_getElem?_getD] using h0
  · rw [show j = j / 3 * 3 + 1 from by omega]; simpa [List.getD_eq_getElem?_getD, show (j / 3 * 3 + 1) / 3 = j / 3 from by omega] using h1
  · rw [show j = j / 3 * 3 + 2 from by omega]; simpa [List.getD_eq_getElem?_getD, show (j / 3 * 3 + 2) / 3 = j / 3 from by omega] using h2

theorem cells_one (ds : List Du) : ∀ u ∈ cellsL ds, u.oneCell' = true := by
  induction ds with
  | nil => simp [cellsL]
  | cons s r ih =>
    intro u hu
    simp only [cellsL, Du.cells, List.mem_append] at hu
    rcases hu with hu | hu
    · simp at hu; rcases hu with rfl | rfl | rfl <;> rfl
    · exact ih u hu

set_option maxRecDepth 100000 in
set_option maxHeartbeats 400000 in
theorem clone_some (a : Addr) (n cap : Nat) (ds : List Du) (w : World) (hn : ds.length = n) (hm : n ≤ 1048576) (h : ∀ W, Below w.heap.size w W → ∀ j u, (cellsL ds)[j]? = some u → W.cell? (a.add j) = some u) :
    Calls Try.prog 115 #[.slice (some a) n cap] w (NewS w n ds) := by
  have Hn := Lib.hid hn
  clear hn
  have HI := Lib.hid h
  clear h
  obtain ⟨i0, hi0, hz0, hz1, hz2⟩ := info_parts infoDue
  have Hi0 := Lib.hid hi0
  have Hz0 := Lib.hid hz0
  have Hz1 := Lib.hid hz1
  have Hz2 := Lib.hid hz2
  clear hi0 hz0 hz1 hz2
  have hnil := fun W => Lib.run_eql_slice_nil (P := Try.prog) W 27 80 (some a) n cap 0 0 Try.underlying27
  go_enter Try.func115, Try.ntmps115
  go_wp2_with (at_builtin; refine wpList_append_own _ rfl _ _ 27 rfl w.heap.size 80 i0 _ 3 24 Try.underlying27 Hi0.out Hz0.out Hz1.out Hz2.out rfl (by decide) _ 0 [] rfl ?c0h a n cap (cellsL ds) rfl ?c6h ?c1h ?c2h ?c3h ?c4h ?c5h ?_)
  case c0h =>
    have h := World.ownsRow_lit (base := w.heap.size) (e := 80) (size := 3) w #[] 0 (Nat.le_refl _) (by simp) (by simp)
    simp at h
    exact h
  case c6h => rw [cellsL_len, Hn.out]
  case c1h => exact HI.out _ (bel_alloc w _)
  case c2h => exact cells_one ds
  case c3h => unfold maxLen; omega
  case c4h => omega
  case c5h => simp
  · intro v' w1 hown hgr _
    obtain ⟨A', cap', rfl⟩ := owns_form hown
    have Ho := Lib.hid hown
    have Hg := Lib.hid hgr
    clear hown hgr
    go_wp2
    go_ret
    refine ⟨A', cap', by simp, dv_owns (by simpa using Hn.out) Ho.out, (bel_alloc w _).grown Hg.out (by simp) (fun k e => ?_), by have := sh_owns Ho.out; simpa using this⟩
    simp [Value.ownBlock] at e
    omega

set_option maxRecDepth 100000 in
theorem clone_none (cap : Nat) (w : World) : Calls Try.prog 115 #[.slice none 0 cap] w (NewS w 0 []) := by
  have hnil := fun W => Lib.run_eql_slice_nil (P := Try.prog) W 27 80 none 0 cap 0 0 Try.underlying27
  go_enter Try.func115, Try.ntmps115
  go_wp2
  go_ret
  exact ⟨none, 0, rfl, fun h => absurd h (by simp), Below.refl _ _, .inl ⟨rfl, rfl, rfl⟩⟩

theorem clone_sh (A : Option Addr) (n cap lo hi : Nat) (ds : List Du) (w : World) (hn : ds.length = n) (hm : n ≤ 1048576) (h : DV w lo hi A ds) (hs : hi ≤ w.heap.size) :
    Calls Try.prog 115 #[.slice A n cap] w (NewS w n ds) := by
  cases A with
  | none =>
    have h0 : ds = [] := by
      cases ds with
      | nil => rfl
      | cons s r => obtain ⟨_, e, _⟩ := h (by simp); cases e
    subst h0
    subst hn
    exact clone_none cap w
  | some a =>
    by_cases h0 : 0 < ds.length
    · obtain ⟨g, e, h1, h2, h3⟩ := h h0
      injection e with e
      subst e
      exact clone_some _ n cap ds w hn hm (fun W hb => news_rd (h3.of_block (hb.block g (by omega))))
    · have h0 : ds = [] := List.eq_nil_of_length_eq_zero (by omega)
      subst h0
      exact clone_some a n cap [] w hn hm (fun W _ j u hj => by simp [cellsL] at hj)

theorem clone_dv (A : Option Addr) (n cap lo hi : Nat) (ds : List Du) (w : World) (hn : ds.length = n) (hm : n ≤ 1048576) (h : DV w lo hi A ds) (hs : hi ≤ w.heap.size) :
    Calls Try.prog 115 #[.slice A n cap] w (NewD w n ds) := (clone_sh A n cap lo hi ds w hn hm h hs).mono fun _ _ h => h.newD
end Go.Proofs.Ytpjelojmkmednaa.Hp

namespace Go.Proofs.Ytpjelojmkmednaa.Hp
open Go.RowKit Go.Deep Base

/-- A boxed tree: its slice and its function. -/
def Tr (w : World) (g : Nat) (A : Option Addr) (n cap : Nat) : Prop := w.heap[g]? = some (.cells #[.slice A n cap, .func (.func 116) #[] #[]] 104 (0, 0))
theorem Tr.cells {w : World} {g : Nat} {A : Option Addr} {n cap : Nat} (h : Tr w g A n cap) : w.cell? ⟨g, 0, none⟩ = some (.slice A n cap) ∧ w.cell? ⟨g, 1, none⟩ = some (.func (.func 116) #[] #[]) ∧ ∀ j, w.frozen? ⟨g, j, none⟩ = false := by
  have hc : ∀ o, w.cell? ⟨g, o, none⟩ = #[.slice A n cap, .func (.func 116) #[] #[]][o]? := fun o => cell_of_row _ _ o _ _ (0, 0) h
  refine ⟨?_, ?_, fun j => by unfold Tr at h; simp [World.frozen?, h]⟩ <;> (rw [hc]; rfl)
theorem Tr.lt {w : World} {g : Nat} {A : Option Addr} {n cap : Nat} (h : Tr w g A n cap) : g < w.heap.size := (Array.getElem?_eq_some_iff.1 h).1
theorem Tr.of_block {w w' : World} {g : Nat} {A : Option Addr} {n cap : Nat} (h : Tr w g A n cap) (e : w'.heap[g]? = w.heap[g]?) : Tr w' g A n cap := e.trans h
theorem Tr.below {w w' : World} {g : Nat} {A : Option Addr} {n cap : Nat} (h : Tr w g A n cap) (hb : Below w.heap.size w w') : Tr w' g A n cap := h.of_block (hb.block g h.lt)

/-- No item ahead of its parent, up to n. -/
def ordB (ds : List Du) (n : Nat) : Bool := (List.range n).all fun i => i == 0 || !before (ds.getD i zDu) (ds.getD (par i) zDu)
theorem ordB_true {ds : List Du} {n : Nat} (h : ∀ i, 0 < i → i < n → before (ds.getD i zDu) (ds.getD (par i) zDu) = false) : ordB ds n = true := by
  unfold ordB
  rw [List.all_eq_true]
  intro i hi
  rw [List.mem_range] at hi
  by_cases e : i = 0
  · subst e; rfl
  · rw [h i (by omega) hi]; simp
theorem ordB_false {ds : List Du} {n k : Nat} (h0 : 0 < k) (hk : k < n) (h : before (ds.getD k zDu) (ds.getD (par k) zDu) = true) : ordB ds n = false := by
  cases e : ordB ds n
  · rfl
  · unfold ordB at e
    rw [List.all_eq_true] at e
    have := e k (List.mem_range.2 hk)
    rw [h] at this
    simp at this
    omega

set_option maxRecDepth 100000 in
set_option maxHeartbeats 1000000 in
theorem ordered_any (b : Nat) (A : Option Addr) (n cap lo hi : Nat) (ds : List Du) (w : World) (hn : ds.length = n) (hm : n ≤ 1048576) (ht : Tr w b A n cap) (h : DV w lo hi A ds) (hs : hi ≤ w.heap.size) :
    Calls Try.prog 118 #[.pointer (some ⟨b, 0, none⟩)] w fun e w' => e = .returned (.bool (ordB ds n)) ∧ Below w.heap.size w w' := by
  have Hn := Lib.hid hn
  have HI := Lib.hid h
  have HT := Lib.hid ht
  clear hn h ht
  go_enter Try.func118, Try.ntmps118
  go_wp2
  go_loopw [3] (fun i wr => ∃ k : Nat, 0 < k ∧ (k ≤ n ∨ k = 1) ∧ i = .int .i64 k ∧ Below w.heap.size w wr ∧ ∀ i, 0 < i → i < k → before (ds.getD i zDu) (ds.getD (par i) zDu) = false) (fun i _ => n - (intOf i).toNat)
  case atStart => exact ⟨1, by omega, .inr rfl, rfl, Below.refl _ _, fun i h0 h1 => absurd h1 (by omega)⟩
  case round =>
    obtain ⟨k, hkp, hk, rfl, hr, hq⟩ := hrel
    have Hr := Lib.hid hr
    have Hq := Lib.hid hq
    clear hr hq
    obtain ⟨x0, x1, xf⟩ := (HT.out.below Hr.out).cells
    have hbl := (HT.out.below Hr.out).lt
    by_cases hlt : k < n
    · obtain ⟨g, rfl, hg1, hg2, hrd⟩ := (HI.out.below Hr.out hs) (by have := Hn.out; omega)
      obtain ⟨c0, c1, c2, _⟩ := hrd k (by have := Hn.out; omega)
      have htd := tdiv_par k hkp
      have hpl : par k < k := by unfold par; omega
      obtain ⟨p, hp⟩ : ∃ p, par k = p := ⟨_, rfl⟩
      rw [hp] at htd hpl
      have Hp := Lib.hid hp
      clear hp
      obtain ⟨p0, p1, p2, _⟩ := hrd p (by have := Hn.out; omega)
      obtain ⟨dat, dseq, did, hd⟩ : ∃ a b c, ds.getD k zDu = ⟨a, b, c⟩ := ⟨_, _, _, rfl⟩
      rw [hd] at c0 c1 c2
      obtain ⟨pat, pseq, pid, hpd⟩ : ∃ a b c, ds.getD p zDu = ⟨a, b, c⟩ := ⟨_, _, _, rfl⟩
      rw [hpd] at p0 p1 p2
      dsimp only at p0 p1 p2 c0 c1 c2
      have Hd := Lib.hid hd
      have Hpd := Lib.hid hpd
      clear hd hpd hrd
      have hk0 : (0 : Int) ≤ (k : Int) := by omega
      have hk1 : (k : Int) < (n : Int) := by omega
      have hpi0 : (0 : Int) ≤ (p : Int) := by omega
      have hpi1 : (p : Int) < (n : Int) := by omega
      have hw1 : IntKind.i64.wrap ((k : Int) - 1) = (k : Int) - 1 := IntWalk.i64_in _ (by omega)
      have hw2 : IntKind.i64.wrap (p : Int) = (p : Int) := IntWalk.i64_in _ (by omega)
      go_wp2_with fail
      go_still_tail 20, (by kernel_rfl)
      change wpList _ _ _ _ _ wr.drew
      go_wp2_with fail
      refine (sooner_any dat dseq did pat pseq pid _).mono ?_
      rintro e w5 ⟨rfl, b5⟩
      have B5 := Lib.hid (bel_trans Hr.out (bel_of_drew b5))
      clear b5
      cases hbf : before ⟨dat, dseq, did⟩ ⟨pat, pseq, pid⟩
      · have Hbf : Hid (before (ds.getD k zDu) (ds.getD (par k) zDu) = false) := by rw [Hp.out, Hd.out, Hpd.out]; exact hbf
        clear hbf
        go_wp2
        go_roundw
        case rel =>
          refine ⟨k + 1, by omega, .inl (by omega), by go_num, B5.out, fun i h0 h1 => ?_⟩
          by_cases e : i = k
          · subst e; exact Hbf.out
          · exact Hq.out i h0 (by omega)
        case measure => simp [intOf]; omega
      · have Ho := Lib.hid (ordB_false (ds := ds) hkp hlt (by rw [Hp.out, Hd.out, Hpd.out]; exact hbf))
        clear hbf
        go_wp2
        go_ret
        exact ⟨by rw [Ho.out]; rfl, B5.out⟩
    · have Ho := Lib.hid (ordB_true (ds := ds) (n := n) (fun i h0 h1 => Hq.out i h0 (by omega)))
      go_wp2
      go_ret
      exact ⟨by rw [Ho.out]; rfl, Hr.out⟩
end Go.Proofs.Ytpjelojmkmednaa.Hp
