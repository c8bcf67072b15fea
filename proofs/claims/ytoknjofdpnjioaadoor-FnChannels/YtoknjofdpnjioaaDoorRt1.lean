/- The routes of chapter 7: the pure search; rows of routes; a row cloned. -/
import Derived.Test.YtoknjofdpnjioaaDoorLs1
import Derived.Test.YtoknjofdpnjioaaDoorCr1
namespace Go.Proofs.YtoknjofdpnjioaaDoor.Cn
open Go.RowKit Go.Deep Base Rw

abbrev Rts := List (Int × List Int)

/-- One event of the k-th route is tried. -/
def bstep (st : Rts × List Bool) (k e : Nat) : Rts × List Bool :=
  if st.1.length ≤ k then st
  else if st.2.getD (go (st.1.getD k (0, [])).1 (e : Int)).toNat false then st
  else (st.1 ++ [(go (st.1.getD k (0, [])).1 (e : Int), (st.1.getD k (0, [])).2 ++ [(e : Int)])], st.2.set (go (st.1.getD k (0, [])).1 (e : Int)).toNat true)
/-- The search behind m tries. -/
def bst (f : Nat) : Nat → Rts × List Bool
  | 0 => ([((f : Int), [])], (List.replicate 5 false).set f true)
  | m + 1 => bstep (bst f m) (m / 7) (m % 7)

def rtOk (f m : Nat) : Bool := decide ((bst f m).1.length ≤ 5) && (bst f m).1.all (fun x => decide (0 ≤ x.1) && decide (x.1 < 5) && decide (x.2.length ≤ 5)) && decide ((bst f m).2.length = 5)
theorem rt_ok : ∀ f, f < 5 → ∀ m, m < 36 → rtOk f m = true := by decide
theorem rt_len {f m : Nat} (hf : f < 5) (hm : m < 36) : (bst f m).1.length ≤ 5 ∧ (∀ x ∈ (bst f m).1, 0 ≤ x.1 ∧ x.1 < 5 ∧ x.2.length ≤ 5) ∧ (bst f m).2.length = 5 := by
  have h := rt_ok f hf m hm
  simp only [rtOk, Bool.and_eq_true, decide_eq_true_eq, List.all_eq_true] at h
  exact ⟨h.1.1, fun x hx => ⟨(h.1.2 x hx).1.1, (h.1.2 x hx).1.2, (h.1.2 x hx).2⟩, h.2⟩

/-- A route: where it leads, its events' slice, its events. -/
structure Rt where
  to : Int
  val : Value
  ints : List Int
def Rt.cells (r : Rt) : List Value := [.int .i64 r.to, r.val]
def Rt.pair (r : Rt) : Int × List Int := (r.to, r.ints)

theorem flat2 : ∀ (rs : List Rt) (k : Nat) (h : k < rs.length), (rs.flatMap Rt.cells)[2 * k]? = some (.int .i64 (rs[k]).to) ∧ (rs.flatMap Rt.cells)[2 * k + 1]? = some (rs[k]).val
  | r :: rs, 0, _ => ⟨rfl, rfl⟩
  | r :: rs, k + 1, h => by
    have ih := flat2 rs k (by simpa using h)
    rw [List.flatMap_cons, show 2 * (k + 1) = (2 * k) + 2 by omega, show 2 * k + 2 + 1 = (2 * k + 1) + 2 by omega]
    simp only [Rt.cells, List.cons_append, List.nil_append, List.getElem?_cons_succ, List.getElem_cons_succ]
    exact ih

/-- A row of routes. -/
structure RT (B : Nat) (wr : World) (v : Value) (rs : List Rt) : Prop where
  own : wr.ownsRow B 61 2 v rs.length (rs.flatMap Rt.cells)
  each : ∀ r ∈ rs, wr.ownsRow B 3 1 r.val r.ints.length (r.ints.map (Value.int .i64))

theorem RT.keep {B : Nat} {wr w2 : World} {v : Value} {rs : List Rt} (h : RT B wr v rs) (hb : Below wr.heap.size wr w2) : RT B w2 v rs :=
  ⟨own_keep h.own hb, fun r hr => own_keep (h.each r hr) hb⟩
theorem RT.push {B : Nat} {wr w2 : World} {v v' : Value} {rs : List Rt} {r : Rt} (h : RT B wr v rs) (hr : wr.ownsRow B 3 1 r.val r.ints.length (r.ints.map (Value.int .i64)))
    (hown : w2.ownsRow B 61 2 v' (rs.length + 1) (rs.flatMap Rt.cells ++ [.int .i64 r.to, r.val])) (hg : wr.grownBy w2 v.ownBlock) : RT B w2 v' (rs ++ [r]) := by
  refine ⟨by simpa [List.flatMap_append, Rt.cells] using hown, fun x hx => ?_⟩
  rw [List.mem_append, List.mem_singleton] at hx
  rcases hx with hx | rfl
  · exact (h.each x hx).kept hg (apart (h.each x hx) h.own (by decide))
  · exact hr.kept hg (apart hr h.own (by decide))

/-- A set of states, with its block. -/
def SB (w : World) (s : Nat) (l : List Bool) : Prop := w.heap[s]? = some (.cells (l.map Value.bool).toArray 63 (0, 0)) ∧ l.length = 5
theorem SB.bs {w : World} {s : Nat} {l : List Bool} (h : SB w s l) : BS w s l := by
  refine ⟨h.2, fun i hi => ?_, fun j => frozen_of_row _ _ j _ _ h.1⟩
  rw [cell_of_row _ _ i _ _ (0, 0) h.1, List.getElem?_toArray, List.getElem?_map, List.getD_eq_getElem?_getD]
  have := h.2
  rw [List.getElem?_eq_getElem (by omega)]
  rfl
theorem SB.set {w : World} {s : Nat} {l : List Bool} (h : SB w s l) (k : Nat) : SB (w.setCell ⟨s, k, none⟩ (.bool true)) s (l.set k true) := by
  refine ⟨?_, by simp [h.2]⟩
  simp only [World.setCell, Array.getElem?_modify, if_true, h.1, Option.map_some]
  simp [List.map_set]
theorem own_ne_of {w : World} {B e sz n s t : Nat} {v : Value} {xs : List Value} {cur : Array Value} (h : w.ownsRow B e sz v n xs) (hp : w.heap[s]? = some (.cells cur t (0, 0))) (ht : t ≠ e) : v.ownBlock ≠ some s := by
  rcases h.2 with ⟨rfl, _⟩ | ⟨g, c, cu, rfl, _, hg, _⟩
  · simp [Value.ownBlock]
  · simp only [Value.ownBlock, ne_eq, Option.some.injEq]
    rintro rfl
    rw [hg] at hp
    injection hp with hp
    injection hp with _ hp _
    exact ht hp.symm
theorem own_other {w w2 : World} {B e sz n s : Nat} {v : Value} {xs : List Value} (h : w.ownsRow B e sz v n xs) (hs : v.ownBlock ≠ some s) (ht : Turns s (s + 1) w w2) : w2.ownsRow B e sz v n xs :=
  h.kept (row := some s) ⟨ht.os, ht.tape, ht.output, ht.size, fun i hi hne => ht.block i hi (by have : i ≠ s := fun e => hne (by rw [e]); omega)⟩ (.inr hs)
theorem set_turns {w : World} {s o : Nat} (u : Value) : Turns s (s + 1) w (w.setCell ⟨s, o, none⟩ u) := (Turns.of_below (Below.refl _ _)).setCell (p := ⟨s, o, none⟩) (Nat.le_refl s) (Nat.lt_succ_self s) u

/-- Between two tries: the routes, the states seen, the chart. -/
structure RoSt (b s : Nat) (W wr : World) (v : Value) (rs : List Rt) (l : List Bool) : Prop where
  rt : RT W.heap.size wr v rs
  sb : SB wr s l
  new : W.heap.size ≤ s
  old : Turns b (b + 1) W wr
  ch : Cht wr b

theorem RoSt.step {b s : Nat} {W wr w2 : World} {v : Value} {rs : List Rt} {l : List Bool} (h : RoSt b s W wr v rs l) (hb : b < W.heap.size) (ht : Turns b (b + 1) wr w2) (hc : Cht w2 b) : RoSt b s W w2 v rs l := by
  have ne : ∀ {e sz n v xs}, wr.ownsRow W.heap.size e sz v n xs → v.ownBlock ≠ some b := fun h e => by have := (h.lt b e).1; omega
  have hn := h.new
  have hl : s < wr.heap.size := (Array.getElem?_eq_some_iff.1 h.sb.1).1
  exact ⟨⟨own_other h.rt.own (ne h.rt.own) ht, fun r hr => own_other (h.rt.each r hr) (ne (h.rt.each r hr)) ht⟩, ⟨(ht.block s hl (by omega)).trans h.sb.1, h.sb.2⟩, hn, h.old.trans ht, hc⟩
theorem RoSt.keep {b s : Nat} {W wr w2 : World} {v : Value} {rs : List Rt} {l : List Bool} (h : RoSt b s W wr v rs l) (hb : Below wr.heap.size wr w2) : RoSt b s W w2 v rs l :=
  ⟨h.rt.keep hb, ⟨(hb.block s (Array.getElem?_eq_some_iff.1 h.sb.1).1).trans h.sb.1, h.sb.2⟩, h.new, h.old.trans (Turns.of_below hb), h.ch.below hb⟩
theorem RoSt.see {b s : Nat} {W wr : World} {v : Value} {rs : List Rt} {l : List Bool} (h : RoSt b s W wr v rs l) (hb : b < W.heap.size) (k : Nat) : RoSt b s W (wr.setCell ⟨s, k, none⟩ (.bool true)) v rs (l.set k true) := by
  have hn := h.new
  exact ⟨⟨own_other h.rt.own (own_ne_of h.rt.own h.sb.1 (by decide)) (set_turns _), fun r hr => own_other (h.rt.each r hr) (own_ne_of (h.rt.each r hr) h.sb.1 (by decide)) (set_turns _)⟩, h.sb.set k, hn, setNew (p := ⟨s, k, none⟩) h.old hn _, h.ch.of_block (heap_setCell_other _ _ _ _ (by show b ≠ s; omega))⟩
theorem RoSt.push {b s : Nat} {W wr w2 : World} {v v' : Value} {rs : List Rt} {l : List Bool} {r : Rt} (h : RoSt b s W wr v rs l) (hb : b < W.heap.size) (hr : wr.ownsRow W.heap.size 3 1 r.val r.ints.length (r.ints.map (Value.int .i64)))
    (hown : w2.ownsRow W.heap.size 61 2 v' (rs.length + 1) (rs.flatMap Rt.cells ++ [.int .i64 r.to, r.val])) (hg : wr.grownBy w2 v.ownBlock) : RoSt b s W w2 v' (rs ++ [r]) l := by
  have ho : ∀ k, k < W.heap.size → some k ≠ v.ownBlock := fun k hk e => by have := (h.rt.own.lt k e.symm).1; omega
  have hz := h.old.size
  have hl : s < wr.heap.size := (Array.getElem?_eq_some_iff.1 h.sb.1).1
  refine ⟨h.rt.push hr hown hg, ⟨(hg.block s hl (fun e => own_ne_of h.rt.own h.sb.1 (by decide) e.symm)).trans h.sb.1, h.sb.2⟩, h.new, ⟨hg.os.trans h.old.os, hg.tape.trans h.old.tape, hg.output.trans h.old.output, Nat.le_trans hz hg.size, fun k hk ho' => (hg.block k (by omega) (ho k hk)).trans (h.old.block k hk ho')⟩, h.ch.of_block (hg.block b (by omega) (ho b hb))⟩

set_option maxHeartbeats 400000 in
theorem cloneO_some (a : Addr) (n cap : Nat) (zs : List Int) (w : World) (hn : zs.length = n) (hm : n ≤ 1048576) (h : ∀ W, Below w.heap.size w W → ∀ j u, (zs.map (Value.int .i64))[j]? = some u → W.cell? (a.add j) = some u) :
    Calls Tryd.prog 45 #[.slice (some a) n cap] w fun e w' => ∃ v, e = .returned v ∧ w'.ownsRow w.heap.size 3 1 v n (zs.map (Value.int .i64)) ∧ Below w.heap.size w w' := by
  have Hn := Lib.hid hn
  clear hn
  have HI := Lib.hid h
  clear h
  obtain ⟨i0, hi0, hz0, hz1, hz2⟩ := info_parts infoInt
  have Hi0 := Lib.hid hi0
  have Hz0 := Lib.hid hz0
  have Hz1 := Lib.hid hz1
  have Hz2 := Lib.hid hz2
  clear hi0 hz0 hz1 hz2
  have hnil := fun W => Lib.run_eql_slice_nil (P := Tryd.prog) W 24 3 (some a) n cap 0 0 Tryd.underlying24
  go_enter Tryd.func45, Tryd.ntmps45
  go_wp2_with (at_builtin; refine wpList_append_own _ rfl _ _ 24 rfl w.heap.size 3 i0 _ 1 8 Tryd.underlying24 Hi0.out Hz0.out Hz1.out Hz2.out rfl (by decide) _ 0 [] rfl ?c0h a n cap (zs.map (Value.int .i64)) rfl ?c6h ?c1h ?c2h ?c3h ?c4h ?c5h ?_)
  case c0h =>
    have h := World.ownsRow_lit (base := w.heap.size) (e := 3) (size := 1) w #[] 0 (Nat.le_refl _) (by simp) (by simp)
    simp at h
    exact h
  case c6h => rw [List.length_map, Hn.out]; omega
  case c1h => exact HI.out _ (bel_alloc w _)
  case c2h => exact map_one zs
  case c3h => unfold maxLen; omega
  case c4h => omega
  case c5h => simp
  · intro v' w1 hown hgr _
    have Ho := Lib.hid hown
    have Hg := Lib.hid hgr
    clear hown hgr
    go_wp2
    go_ret
    refine ⟨v', rfl, Ho.out, (bel_alloc w _).grown Hg.out (by simp) (fun k e => ?_)⟩
    simp [Value.ownBlock] at e
    omega

theorem cloneO_any (B : Nat) (v : Value) (zs : List Int) (w : World) (hm : zs.length ≤ 1048576) (h : w.ownsRow B 3 1 v zs.length (zs.map (Value.int .i64))) :
    Calls Tryd.prog 45 #[v] w fun e w' => ∃ v', e = .returned v' ∧ w'.ownsRow w.heap.size 3 1 v' zs.length (zs.map (Value.int .i64)) ∧ Below w.heap.size w w' := by
  rcases h.2 with ⟨rfl, h0⟩ | ⟨g, cap, cu, rfl, _⟩
  · have hz : zs = [] := List.eq_nil_of_length_eq_zero h0
    subst hz
    have hnil := fun W => Lib.run_eql_slice_nil (P := Tryd.prog) W 24 3 none 0 0 0 0 Tryd.underlying24
    go_enter Tryd.func45, Tryd.ntmps45
    go_wp2
    go_ret
    exact ⟨_, rfl, World.ownsRow_nil _ _ _ _, Below.refl _ _⟩
  · exact cloneO_some ⟨g, 0, none⟩ zs.length cap zs w rfl hm (fun W hb j u hj => (own_keep h hb).cells (g := g) rfl j u hj)
end Go.Proofs.YtoknjofdpnjioaaDoor.Cn
