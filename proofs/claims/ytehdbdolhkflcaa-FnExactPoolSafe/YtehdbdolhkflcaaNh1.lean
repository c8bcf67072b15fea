/- An item moved up: the mathematics, and the reference's walk. Two items exchanged by the program's tree. The program's moveUp. An item moved down: the mathematics, and the reference's walk. The program's moveDown. An item removed from the program's tree; the copy of a heap that a refused call hands back. What DueOf answers: the reference's and the program's. The program's CancelDue. What spec.l03Copy makes. The reference's CancelDue. -/
import Derived.Test.YtehdbdolhkflcaaNh0
import Derived.Deep.RegionLaw
import Derived.Deep.AppendLies
namespace Go.Proofs.Ytehdbdolhkflcaa.Hp
open Go.RowKit Go.Deep Base

def swapD (ds : List Du) (i j : Nat) : List Du := (ds.set i (ds.getD j zDu)).set j (ds.getD i zDu)
theorem swapD_len (ds : List Du) (i j : Nat) : (swapD ds i j).length = ds.length := by simp [swapD]
/-- The item at k moved up, with fuel. -/
def upD : Nat → List Du → Nat → List Du
  | 0, ds, _ => ds
  | F + 1, ds, k => if (decide (0 < k) && before (ds.getD k zDu) (ds.getD (par k) zDu)) = true then upD F (swapD ds k (par k)) (par k) else ds
theorem upD_stop {F : Nat} {ds : List Du} {k : Nat} (h : (decide (0 < k) && before (ds.getD k zDu) (ds.getD (par k) zDu)) = false) : upD F ds k = ds := by
  cases F with
  | zero => rfl
  | succ F => unfold upD; rw [if_neg (by rw [h]; simp)]
theorem upD_go {F : Nat} {ds : List Du} {k : Nat} (h : (decide (0 < k) && before (ds.getD k zDu) (ds.getD (par k) zDu)) = true) : upD (F + 1) ds k = upD F (swapD ds k (par k)) (par k) := by
  conv => lhs; unfold upD
  rw [if_pos h]
theorem upD_len : ∀ (F : Nat) (ds : List Du) (k : Nat), (upD F ds k).length = ds.length
  | 0, _, _ => rfl
  | F + 1, ds, k => by
    unfold upD
    split
    · rw [upD_len F, swapD_len]
    · rfl

/-- One item stored. -/
def set3 (w : World) (g i : Nat) (d : Du) : World := ((w.setCell ⟨g, i * 3, none⟩ (.int .i64 d.at)).setCell ⟨g, i * 3 + 1, none⟩ (.int .i64 d.seq)).setCell ⟨g, i * 3 + 2, none⟩ (.int .i64 d.id)
theorem Rd.set3 {w : World} {g : Nat} {ds : List Du} (h : Rd w g ds) (i : Nat) (d : Du) : Rd (Hp.set3 w g i d) g (ds.set i d) := by
  intro j hj
  rw [List.length_set] at hj
  obtain ⟨h0, h1, h2, h4⟩ := h j hj
  have hs : ∀ {o : Nat} {u : Value}, w.cell? ⟨g, o, none⟩ = some u → (w.cell? ⟨g, o, none⟩).isSome = true := fun h => by rw [h]; rfl
  have hc : ∀ {o : Nat} {u : Value}, w.cell? ⟨g, o, none⟩ = some u → (Hp.set3 w g i d).cell? ⟨g, o, none⟩ = if o = i * 3 + 2 then some (.int .i64 d.id) else if o = i * 3 + 1 then some (.int .i64 d.seq) else if o = i * 3 then some (.int .i64 d.at) else some u := fun {o u} ho => by
    unfold Hp.set3
    rw [cell_set (some_set (some_set (hs ho))), cell_set (some_set (hs ho)), cell_set (hs ho), ho]
  have hf : ∀ k, (Hp.set3 w g i d).frozen? ⟨g, k, none⟩ = false := fun k => by unfold Hp.set3; simp only [World.frozen?_setCell]; exact h4 k
  rw [hc h0, hc h1, hc h2]
  by_cases e : j = i
  · subst e
    have he : (ds.set j d).getD j zDu = d := by simp [List.getD_eq_getElem?_getD, hj]
    rw [he]
    exact ⟨by rw [if_neg (by omega), if_neg (by omega), if_pos rfl], by rw [if_neg (by omega), if_pos rfl], by rw [if_pos rfl], hf⟩
  · have he : (ds.set i d).getD j zDu = ds.getD j zDu := by
      have e' : ¬ i = j := fun h => e h.symm
      simp [List.getD_eq_getElem?_getD, e']
    rw [he]
    exact ⟨by rw [if_neg (by omega), if_neg (by omega), if_neg (by omega)], by rw [if_neg (by omega), if_neg (by omega), if_neg (by omega)], by rw [if_neg (by omega), if_neg (by omega), if_neg (by omega)], hf⟩
/-- As Turns; and a block of cells stays one of as many cells. -/
structure Tn (lo hi : Nat) (w w' : World) : Prop extends Turns lo hi w w' where
  shape : ∀ (k : Nat) (cur : Array Value) (e : TypeId), w.heap[k]? = some (.cells cur e (0, 0)) → ∃ cur', w'.heap[k]? = some (.cells cur' e (0, 0)) ∧ cur'.size = cur.size
theorem Tn.of_below {lo hi : Nat} {w w' : World} (h : Below w.heap.size w w') : Tn lo hi w w' :=
  ⟨Turns.of_below h, fun k cur _ hk => ⟨cur, (h.block k (Array.getElem?_eq_some_iff.1 hk).1).trans hk, rfl⟩⟩
theorem Tn.trans {lo hi : Nat} {a b c : World} (h : Tn lo hi a b) (k : Tn lo hi b c) : Tn lo hi a c :=
  ⟨h.toTurns.trans k.toTurns, fun i cur e hi' => by
    obtain ⟨c1, h1, s1⟩ := h.shape i cur e hi'
    obtain ⟨c2, h2, s2⟩ := k.shape i c1 e h1
    exact ⟨c2, h2, s2.trans s1⟩⟩
theorem Tn.setCell {lo hi : Nat} {a w : World} (h : Tn lo hi a w) {g o : Nat} (h1 : lo ≤ g) (h2 : g < hi) (u : Value) : Tn lo hi a (w.setCell ⟨g, o, none⟩ u) :=
  ⟨h.toTurns.setCell (p := ⟨g, o, none⟩) h1 h2 u, fun i cur e hi' => by
    obtain ⟨c1, h3, s1⟩ := h.shape i cur e hi'
    by_cases e' : i = g
    · subst e'
      exact ⟨_, heap_setCell_same w i o c1 e u h3, by simpa using s1⟩
    · exact ⟨c1, (heap_setCell_other w _ _ _ e').trans h3, s1⟩⟩
theorem Tn.wide {lo hi lo' hi' : Nat} {a w : World} (h : Tn lo hi a w) (h1 : lo' ≤ lo) (h2 : hi ≤ hi') : Tn lo' hi' a w :=
  ⟨⟨h.os, h.tape, h.output, h.size, fun k hk ho => h.block k hk (by omega)⟩, h.shape⟩
theorem Tn.set3 {lo hi : Nat} {a w : World} (h : Tn lo hi a w) {g : Nat} (h1 : lo ≤ g) (h2 : g < hi) (i : Nat) (d : Du) : Tn lo hi a (set3 w g i d) := by
  unfold Hp.set3
  exact ((h.setCell h1 h2 _).setCell h1 h2 _).setCell h1 h2 _
theorem Tn.alloc {lo hi : Nat} {a w : World} (h : Tn lo hi a w) (o : Obj) : Tn lo hi a (w.alloc o) := h.trans (Tn.of_below (bel_alloc w o))


end Go.Proofs.Ytehdbdolhkflcaa.Hp

namespace Go.Proofs.Ytehdbdolhkflcaa.Hp
open Go.RowKit Go.Deep Base


end Go.Proofs.Ytehdbdolhkflcaa.Hp

namespace Go.Proofs.Ytehdbdolhkflcaa.Hp
open Go.RowKit Go.Deep Base

theorem tdiv_par' (k : Nat) : ((k : Int) - 1).tdiv 2 = (par k : Int) := by
  by_cases h : 0 < k
  · exact tdiv_par k h
  · obtain rfl : k = 0 := by omega
    rfl

theorem Tr.tn {w w' : World} {b g : Nat} {A : Option Addr} {n cap : Nat} (h : Tr w b A n cap) (t : Tn g (g + 1) w w') (hbg : b ≠ g) : Tr w' b A n cap := h.of_block (t.block b h.lt (by omega))


end Go.Proofs.Ytehdbdolhkflcaa.Hp

namespace Go.Proofs.Ytehdbdolhkflcaa.Hp
open Go.RowKit Go.Deep Base

/-- The child that comes first. -/
def kid (es : List Du) (k : Nat) : Nat := if (decide (2 * k + 2 < es.length) && before (es.getD (2 * k + 2) zDu) (es.getD (2 * k + 1) zDu)) = true then 2 * k + 2 else 2 * k + 1
def mustD (es : List Du) (k : Nat) : Bool := decide (2 * k + 1 < es.length) && before (es.getD (kid es k) zDu) (es.getD k zDu)
/-- The item at k moved down, with fuel. -/
def downD : Nat → List Du → Nat → List Du
  | 0, es, _ => es
  | F + 1, es, k => if mustD es k = true then downD F (swapD es k (kid es k)) (kid es k) else es
theorem downD_stop {F : Nat} {es : List Du} {k : Nat} (h : mustD es k = false) : downD F es k = es := by
  cases F with
  | zero => rfl
  | succ F => unfold downD; rw [if_neg (by rw [h]; simp)]
theorem downD_go {F : Nat} {es : List Du} {k : Nat} (h : mustD es k = true) : downD (F + 1) es k = downD F (swapD es k (kid es k)) (kid es k) := by
  conv => lhs; unfold downD
  rw [if_pos h]
theorem downD_len : ∀ (F : Nat) (es : List Du) (k : Nat), (downD F es k).length = es.length
  | 0, _, _ => rfl
  | F + 1, es, k => by
    unfold downD
    split
    · rw [downD_len F, swapD_len]
    · rfl


end Go.Proofs.Ytehdbdolhkflcaa.Hp

namespace Go.Proofs.Ytehdbdolhkflcaa.Hp
open Go.RowKit Go.Deep Base

theorem before_iff {a b : Du} : before a b = true ↔ a.at < b.at ∨ a.at = b.at ∧ a.seq < b.seq := by simp [before]
theorem before_trans {a b c : Du} (h1 : before a b = true) (h2 : before b c = true) : before a c = true := by rw [before_iff] at *; omega
theorem before_neg {a b c : Du} (h1 : before a b = false) (h2 : before b c = false) : before a c = false := by
  rw [← Bool.not_eq_true, before_iff] at *; omega

/-- The least of place k and its first i children. -/
def lstD (es : List Du) (k : Nat) : Nat → Nat
  | 0 => k
  | i + 1 => if before (es.getD (2 * k + 1 + i) zDu) (es.getD (lstD es k i) zDu) = true then 2 * k + 1 + i else lstD es k i
theorem lstD_lt {es : List Du} {k : Nat} (hk : k < es.length) : ∀ i, (i = 0 ∨ 2 * k + i < es.length) → lstD es k i < es.length
  | 0, _ => hk
  | i + 1, h => by
    unfold lstD
    split
    · omega
    · exact lstD_lt hk i (by omega)
theorem lstD_end {es : List Du} {k i : Nat} (hi : i ≤ 2) (h1 : i = 0 ∨ 2 * k + i < es.length) (h2 : i = 2 ∨ es.length ≤ 2 * k + 1 + i) :
    lstD es k i = if mustD es k = true then kid es k else k := by
  have hi' : i = 0 ∨ i = 1 ∨ i = 2 := by omega
  rcases hi' with rfl | rfl | rfl
  · have : mustD es k = false := by unfold mustD; rw [decide_eq_false (by omega)]; rfl
    rw [this]; rfl
  · have hk1 : kid es k = 2 * k + 1 := by unfold kid; rw [decide_eq_false (by omega)]; rfl
    have hm : mustD es k = before (es.getD (2 * k + 1) zDu) (es.getD k zDu) := by unfold mustD; rw [hk1, decide_eq_true (by omega)]; rfl
    rw [hm, hk1]
    rfl
  · have hk1 : kid es k = if before (es.getD (2 * k + 2) zDu) (es.getD (2 * k + 1) zDu) = true then 2 * k + 2 else 2 * k + 1 := by unfold kid; rw [decide_eq_true (by omega)]; rfl
    have hm : mustD es k = before (es.getD (kid es k) zDu) (es.getD k zDu) := by unfold mustD; rw [decide_eq_true (by omega)]; rfl
    rw [hm, hk1]
    show (if before (es.getD (2 * k + 1 + 1) zDu) (es.getD (if before (es.getD (2 * k + 1 + 0) zDu) (es.getD k zDu) = true then 2 * k + 1 + 0 else k) zDu) = true then 2 * k + 1 + 1 else (if before (es.getD (2 * k + 1 + 0) zDu) (es.getD k zDu) = true then 2 * k + 1 + 0 else k)) = _
    rw [show 2 * k + 1 + 1 = 2 * k + 2 from rfl, show 2 * k + 1 + 0 = 2 * k + 1 from rfl]
    cases h1 : before (es.getD (2 * k + 1) zDu) (es.getD k zDu)
    · simp only [Bool.false_eq_true, if_false]
      cases h2 : before (es.getD (2 * k + 2) zDu) (es.getD (2 * k + 1) zDu)
      · simp only [Bool.false_eq_true, if_false]
        rw [before_neg h2 h1, h1]
        rfl
      · simp only [if_true]
    · simp only [if_true]
      cases h2 : before (es.getD (2 * k + 2) zDu) (es.getD (2 * k + 1) zDu)
      · simp only [Bool.false_eq_true, if_false]
        rw [h1]
        rfl
      · simp only [if_true]
        rw [before_trans h2 h1]
        rfl

theorem kid_gt (es : List Du) (k : Nat) : k < kid es k := by unfold kid; split <;> omega
theorem kid_lt {es : List Du} {k : Nat} (h : mustD es k = true) : kid es k < es.length := by
  unfold mustD at h
  simp only [Bool.and_eq_true, decide_eq_true_eq] at h
  unfold kid
  split
  · next e => simp only [Bool.and_eq_true, decide_eq_true_eq] at e; exact e.1
  · exact h.1


end Go.Proofs.Ytehdbdolhkflcaa.Hp

namespace Go.Proofs.Ytehdbdolhkflcaa.Hp
open Go.RowKit Go.Deep Base

/-- The last item in the place of item k, and the list one shorter. -/
def cutD (ds : List Du) (k : Nat) : List Du := (swapD ds k (ds.length - 1)).take (ds.length - 1)
/-- Item k removed. -/
def remD (ds : List Du) (k : Nat) : List Du := if k < ds.length - 1 then downD (ds.length - 1) (upD k (cutD ds k) k) k else cutD ds k
theorem cutD_len (ds : List Du) (k : Nat) : (cutD ds k).length = ds.length - 1 := by unfold cutD; rw [List.length_take, swapD_len]; omega
theorem remD_len (ds : List Du) (k : Nat) : (remD ds k).length = ds.length - 1 := by
  unfold remD
  split
  · rw [downD_len, upD_len, cutD_len]
  · exact cutD_len ds k

theorem getD_take {ds : List Du} {m i : Nat} (h : i < m) : (ds.take m).getD i zDu = ds.getD i zDu := by simp [List.getD_eq_getElem?_getD, h]
theorem Rd.take {w : World} {g : Nat} {ds : List Du} (h : Rd w g ds) (m : Nat) : Rd w g (ds.take m) := by
  intro i hi
  rw [List.length_take] at hi
  rw [getD_take (by omega)]
  exact h i (by omega)

theorem Tr.store {w : World} {b : Nat} {A : Option Addr} {n cap : Nat} (h : Tr w b A n cap) (A' : Option Addr) (n' cap' : Nat) : Tr (w.setCell ⟨b, 0, none⟩ (.slice A' n' cap')) b A' n' cap' := by
  have := heap_setCell_same w b 0 _ _ (.slice A' n' cap') h
  exact this


end Go.Proofs.Ytehdbdolhkflcaa.Hp

namespace Go.Proofs.Ytehdbdolhkflcaa.Hp
open Go.RowKit Go.Deep Base

/-- The first place of an Id among the items; -1 where it is not. -/
def fndD (ds : List Du) (id : Int) : Int := match ds.findIdx? (fun d => d.id == id) with
  | some i => (i : Int)
  | none => -1
theorem fndD_here {ds : List Du} {id : Int} {k : Nat} (hk : k < ds.length) (h : ∀ j, j < k → (ds.getD j zDu).id ≠ id) (he : (ds.getD k zDu).id = id) : fndD ds id = (k : Int) := by
  have : ds.findIdx? (fun d => d.id == id) = some k := by
    rw [List.findIdx?_eq_some_iff_getElem]
    refine ⟨hk, ?_, fun j hj => ?_⟩
    · rw [List.getD_eq_getElem?_getD, List.getElem?_eq_getElem hk] at he
      simpa using he
    · have := h j hj
      rw [List.getD_eq_getElem?_getD, List.getElem?_eq_getElem (by omega)] at this
      simpa using this
  unfold fndD; rw [this]
theorem fndD_not {ds : List Du} {id : Int} (h : ∀ j, j < ds.length → (ds.getD j zDu).id ≠ id) : fndD ds id = -1 := by
  have : ds.findIdx? (fun d => d.id == id) = none := by
    rw [List.findIdx?_eq_none_iff]
    intro x hx
    obtain ⟨j, hj, rfl⟩ := List.getElem_of_mem hx
    have := h j hj
    rw [List.getD_eq_getElem?_getD, List.getElem?_eq_getElem hj] at this
    simpa using this
  unfold fndD; rw [this]
theorem fndD_lt {ds : List Du} {id : Int} (h : ¬ fndD ds id < 0) : ∃ k : Nat, fndD ds id = (k : Int) ∧ k < ds.length := by
  unfold fndD at h ⊢
  split
  · next i e =>
    rw [List.findIdx?_eq_some_iff_getElem] at e
    exact ⟨i, rfl, e.1⟩
  · next e => rw [e] at h; exact absurd (by decide) h
theorem fndD_neg {ds : List Du} {id : Int} (h : fndD ds id < 0) : fndD ds id = -1 := by
  unfold fndD at h ⊢
  split
  · next i e => rw [e] at h; simp at h; omega
  · rfl

set_option maxRecDepth 100000 in
set_option maxHeartbeats 1000000 in
theorem specFind_any (A : Option Addr) (n cap lo hi : Nat) (ds : List Du) (q id : Int) (w : World) (hn : ds.length = n) (hm : n ≤ 1048576) (h : DV w lo hi A ds) (hs : hi ≤ w.heap.size) :
    Calls Try.prog 93 #[.agg #[.slice A n cap, .int .i64 q], .int .i64 id] w fun e w' => e = .returned (.int .i64 (fndD ds id)) ∧ Below w.heap.size w w' := by
  have Hn := Lib.hid hn
  have HI := Lib.hid h
  clear hn h
  go_enter Try.func93, Try.ntmps93
  go_wp2
  go_loop [5] (fun i => ∃ k : Nat, k ≤ n ∧ i = .int .i64 k ∧ ∀ j, j < k → (ds.getD j zDu).id ≠ id) (fun i => n - (intOf i).toNat)
  case atStart => exact ⟨0, Nat.zero_le _, rfl, fun j hj => absurd hj (by omega)⟩
  case round =>
    obtain ⟨k, hk, rfl, hq⟩ := hrel
    have Hq := Lib.hid hq
    clear hq
    by_cases hlt : k < n
    · obtain ⟨g, rfl, hg1, hg2, hrd⟩ := HI.out (by have := Hn.out; omega)
      obtain ⟨c0, c1, c2, _⟩ := hrd k (by have := Hn.out; omega)
      have hgl : g < w.heap.size := by omega
      obtain ⟨dat, dseq, did, hd⟩ : ∃ a b c, ds.getD k zDu = ⟨a, b, c⟩ := ⟨_, _, _, rfl⟩
      rw [hd] at c0 c1 c2
      dsimp only at c0 c1 c2
      have Hd := Lib.hid hd
      clear hd hrd
      have hk0 : (0 : Int) ≤ (k : Int) := by omega
      have hk1 : (k : Int) < (n : Int) := by omega
      by_cases he : did = id
      · have He := Lib.hid he
        have heb : (did == id) = true := by simpa using he
        clear he
        go_wp2
        go_ret
        exact ⟨by rw [fndD_here (by rw [Hn.out]; exact hlt) Hq.out (by rw [Hd.out]; exact He.out)]; rfl, bel_alloc _ _⟩
      · have heb : (did == id) = false := by simpa using he
        have He := Lib.hid he
        clear he
        go_wp2
        go_round
        case rel =>
          refine ⟨k + 1, by omega, by go_num, fun j hj => ?_⟩
          by_cases e : j = k
          · subst e; rw [Hd.out]; exact He.out
          · exact Hq.out j (by omega)
        case measure => simp [intOf]; omega
    · obtain rfl : k = n := by omega
      go_wp2
      go_ret
      exact ⟨by rw [fndD_not (by rw [Hn.out]; exact Hq.out)]; rfl, bel_alloc _ _⟩

/-- DueOf's answer. -/
def dueA (ds : List Du) (q id : Int) : Int := if okH ds q = true ∧ 0 ≤ fndD ds id then (ds.getD (fndD ds id).toNat zDu).at else -1
theorem dueA_bad {ds : List Du} {q id : Int} (h : okH ds q = false) : dueA ds q id = -1 := by unfold dueA; rw [if_neg (by rw [h]; simp)]
theorem dueA_none {ds : List Du} {q id : Int} (h : fndD ds id < 0) : dueA ds q id = -1 := by unfold dueA; rw [if_neg (by omega)]
theorem dueA_at {ds : List Du} {q id : Int} {k : Nat} (h : okH ds q = true) (hk : fndD ds id = (k : Int)) : dueA ds q id = (ds.getD k zDu).at := by unfold dueA; rw [if_pos ⟨h, by omega⟩, hk, Int.toNat_natCast]


end Go.Proofs.Ytehdbdolhkflcaa.Hp

namespace Go.Proofs.Ytehdbdolhkflcaa.Hp
open Go.RowKit Go.Deep Base

/-- CancelDue's answer: may it, and the items behind it. -/
def canB (ds : List Du) (q id : Int) : Bool := okH ds q && decide (0 ≤ fndD ds id)
def canD (ds : List Du) (q id : Int) : List Du := if canB ds q id = true then remD ds (fndD ds id).toNat else ds
theorem canB_bad {ds : List Du} {q id : Int} (h : okH ds q = false) : canB ds q id = false := by unfold canB; rw [h]; rfl
theorem canB_none {ds : List Du} {q id : Int} (h : fndD ds id < 0) : canB ds q id = false := by unfold canB; rw [decide_eq_false (by omega)]; simp
theorem canB_yes {ds : List Du} {q id : Int} {k : Nat} (h : okH ds q = true) (hk : fndD ds id = (k : Int)) : canB ds q id = true := by unfold canB; rw [h, hk, decide_eq_true (by omega)]; rfl
theorem canD_no {ds : List Du} {q id : Int} (h : canB ds q id = false) : canD ds q id = ds := by unfold canD; rw [if_neg (by rw [h]; simp)]
theorem canD_yes {ds : List Du} {q id : Int} {k : Nat} (h : okH ds q = true) (hk : fndD ds id = (k : Int)) : canD ds q id = remD ds k := by unfold canD; rw [if_pos (canB_yes h hk), hk, Int.toNat_natCast]
theorem canD_len (ds : List Du) (q id : Int) : (canD ds q id).length ≤ ds.length := by
  unfold canD
  split
  · rw [remD_len]; omega
  · exact Nat.le_refl _

/-- What a call leaves that hands back a heap and whether it did what was asked. -/
def HeapEnd (w : World) (ds' : List Du) (q' : Int) (v : Bool) (e : Ending) (w' : World) : Prop :=
  ∃ A cap, e = .returned (.tuple #[.agg #[.slice A ds'.length cap, .int .i64 q'], .bool v]) ∧ DV w' w.heap.size w'.heap.size A ds' ∧ Below w.heap.size w w'


end Go.Proofs.Ytehdbdolhkflcaa.Hp

namespace Go.Proofs.Ytehdbdolhkflcaa.Hp
open Go.RowKit Go.Deep Base

theorem cellsL_one (s : Du) : cellsL [s] = [.int .i64 s.at, .int .i64 s.seq, .int .i64 s.id] := rfl
theorem new_three_at {w : World} {B : Nat} (h : w.heap.size = B) (a b c : Value) (t : TypeId) : ∀ j u, [a, b, c][j]? = some u → (w.alloc (.cells #[a, b, c] t)).cell? ((⟨B, 0, none⟩ : Addr).add j) = some u := by
  subst h
  intro j u hj
  have ea : (⟨w.heap.size, 0, none⟩ : Addr).add j = ⟨w.heap.size, j, none⟩ := by
    unfold Addr.add; split
    · next h => subst h; rfl
    · simp
  rw [ea, cell_of_row _ _ j #[a, b, c] t (0, 0) (heap_alloc_new w _)]
  simpa using hj

theorem Blk2.set0 {w : World} {g : Nat} {v0 v1 : Value} (h : Blk2 w g v0 v1) (u : Value) : Blk2 (w.setCell ⟨g, 0, none⟩ u) g u v1 := by
  unfold Blk2 at h ⊢
  simp [World.setCell, Array.getElem?_modify, h]

theorem grown_set (w : World) (b o : Nat) (u : Value) : w.grownBy (w.setCell ⟨b, o, none⟩ u) (some b) :=
  ⟨rfl, rfl, rfl, by simp [World.setCell], fun k _ hk => heap_setCell_other w _ _ _ (fun e => hk (by rw [e]))⟩

theorem far_cells {wr w1 : World} {B : Nat} {v : Value} {e : TypeId} {size k : Nat} {xs : List Value} {o : Obj} (hg : (wr.alloc o).drew.grownBy w1 v.ownBlock) (h : wr.ownsRow B e size v k xs) :
    ∀ b j, b < B ∧ b < wr.heap.size → w1.cell? ⟨b, j, none⟩ = wr.cell? ⟨b, j, none⟩ := fun b j hb => by
  have e1 : w1.heap[b]? = (wr.alloc o).heap[b]? := hg.block b (by show b < (wr.alloc o).heap.size; simp; omega) (fun e => by have := (h.lt b e.symm).1; omega)
  exact World.cell?_of_block (w := wr) (e1.trans (Below.heap_alloc wr o b hb.2))
theorem far_frozen {wr w1 : World} {B : Nat} {v : Value} {e : TypeId} {size k : Nat} {xs : List Value} {o : Obj} (hg : (wr.alloc o).drew.grownBy w1 v.ownBlock) (h : wr.ownsRow B e size v k xs) :
    ∀ b j, b < B ∧ b < wr.heap.size → w1.frozen? ⟨b, j, none⟩ = wr.frozen? ⟨b, j, none⟩ := fun b j hb => by
  have e1 : w1.heap[b]? = (wr.alloc o).heap[b]? := hg.block b (by show b < (wr.alloc o).heap.size; simp; omega) (fun e => by have := (h.lt b e.symm).1; omega)
  exact World.frozen?_of_block (w := wr) (e1.trans (Below.heap_alloc wr o b hb.2))
theorem grown_undrew {a b : World} {row : Option Nat} (h : a.drew.grownBy b row) : a.grownBy b row := ⟨h.os, h.tape, h.output, h.size, h.block⟩

structure CopySt (B : Nat) (w wr : World) (v q : Value) (k : Nat) (ds : List Du) : Prop where
  box : Blk2 wr (B + 1 + 1) v q
  own : wr.ownsRow (B + 1 + 1 + 1) 108 3 v k (cellsL (ds.take k))
  old : Below (B + 1 + 1) w wr

theorem CopySt.step {B : Nat} {w wr w1 : World} {v v' q : Value} {k : Nat} {ds : List Du} {o : Obj} (h : CopySt B w wr v q k ds) {xs : List Value} (hx : cellsL (ds.take (k + 1)) = xs) (hown : w1.ownsRow (B + 1 + 1 + 1) 108 3 v' (k + 1) xs) (hg : (wr.alloc o).grownBy w1 v.ownBlock) :
    CopySt B w (w1.setCell ⟨B + 1 + 1, 0, none⟩ v') v' q (k + 1) ds := by
  have hlt := h.box.lt
  have hne : some (B + 1 + 1) ≠ v.ownBlock := fun e => by have := (h.own.lt _ e.symm).1; omega
  have hb1 : Blk2 w1 (B + 1 + 1) v q := (h.box.alloc o).of_block (hg.block _ (by simp; omega) hne)
  refine ⟨hb1.set0 v', ?_, ?_⟩
  · rw [hx]
    refine hown.kept (grown_set _ _ _ _) (.inr fun e => ?_)
    have := (hown.lt _ e).1
    omega
  · exact ((h.old.alloc (by omega) o).grown hg (by simp; omega) (fun j e => by have := (h.own.lt j e).1; omega)).setCell (by simp) _

def LoopC (B : Nat) (w wr : World) (q : Value) (k : Nat) (ds : List Du) : Prop := ∃ v, CopySt B w wr v q k ds

/-- A new heap comes back, with the form of its slice's block. -/
def NewHS (w : World) (n : Nat) (ds : List Du) (q : Int) (e : Ending) (w' : World) : Prop :=
  ∃ A cap, e = .returned (.agg #[.slice A n cap, .int .i64 q]) ∧ DV w' w.heap.size w'.heap.size A ds ∧ Below w.heap.size w w' ∧ Sh w' w.heap.size w'.heap.size A n cap


end Go.Proofs.Ytehdbdolhkflcaa.Hp

namespace Go.Proofs.Ytehdbdolhkflcaa.Hp
open Go.RowKit Go.Deep Base

theorem cutD_eq {ds : List Du} {k m : Nat} (hn : ds.length = m + 1) : cutD ds k = (ds.set k (ds.getD m zDu)).take m := by
  unfold cutD swapD
  rw [hn, show m + 1 - 1 = m from rfl]
  apply List.ext_getElem?
  intro i
  rw [List.getElem?_take, List.getElem?_take]
  split
  · next h =>
    rw [List.getElem?_set_ne (by omega)]
  · rfl

/-- As HeapEnd, with the form of the slice's block. -/
def HeapEndS (w : World) (ds' : List Du) (q' : Int) (v : Bool) (e : Ending) (w' : World) : Prop :=
  ∃ A cap, e = .returned (.tuple #[.agg #[.slice A ds'.length cap, .int .i64 q'], .bool v]) ∧ DV w' w.heap.size w'.heap.size A ds' ∧ Below w.heap.size w w' ∧ Sh w' w.heap.size w'.heap.size A ds'.length cap
theorem HeapEndS.plain {w : World} {ds' : List Du} {q' : Int} {v : Bool} {e : Ending} {w' : World} (h : HeapEndS w ds' q' v e w') : HeapEnd w ds' q' v e w' := by
  obtain ⟨A, cap, h1, h2, h3, _⟩ := h
  exact ⟨A, cap, h1, h2, h3⟩


end Go.Proofs.Ytehdbdolhkflcaa.Hp
