/- The draw of chapter 8: an Id and some list of events, each of three integers or of two. -/
import Derived.Test.YtbmfleakldhabaaDoorDraw2
import Derived.Test.YtbmfleakldhabaaDoorKnI
namespace Go.Proofs.YtbmfleakldhabaaDoor.Draw
open Go.RowKit Go.Deep Base Rw Kn

/-- A drawn event: its block, its room, its integers. -/
structure Ev where
  blk : Nat
  room : Nat
  ints : List Int
def Ev.val (r : Ev) : Value := .slice (some ⟨r.blk, 0, none⟩) r.ints.length r.room

structure PlSt (w W : World) (g : Nat) (A : Option Addr) (n cap : Nat) (zs : List Int) (rs : List Ev) (v : Value) : Prop where
  cur : Cur W g A n cap zs
  own : W.ownsRow (g + 1) 29 1 v rs.length (rs.map Ev.val)
  each : ∀ r ∈ rs, RI W r.blk r.ints ∧ g < r.blk ∧ r.blk < W.heap.size ∧ some r.blk ≠ v.ownBlock ∧ r.ints.length ≤ 3
  bel : Below w.heap.size w W
  lo : w.heap.size ≤ g

section
variable {w W W' : World} {g : Nat} {A : Option Addr} {n cap : Nat} {zs : List Int} {rs : List Ev} {v : Value}
theorem PlSt.draw (h : PlSt w W g A n cap zs rs v) (hc : Cur W' g A n cap zs) (hg : W.grownBy W' (some g)) : PlSt w W' g A n cap zs rs v := by
  have h1 := h.lo
  have h3 := h.bel.size
  refine ⟨hc, h.own.kept hg ?_, fun r hr => ?_, h.bel.trans (Draw.grown_below hg h3 h1), h1⟩
  · cases e : v.ownBlock with
    | none => exact .inl rfl
    | some j => exact .inr (fun e' => by injection e' with e'; have := (h.own.lt j e).1; omega)
  · obtain ⟨q1, q2, q3, q4, q5⟩ := h.each r hr
    exact ⟨q1.of_block (hg.block _ q3 (fun e => by injection e with e; omega)), q2, Nat.lt_of_lt_of_le q3 hg.size, q4, q5⟩

theorem PlSt.below (h : PlSt w W g A n cap zs rs v) (hb : Below W.heap.size W W') : PlSt w W' g A n cap zs rs v := by
  have h0 := h.cur.lt
  refine ⟨h.cur.keep (hb.mono (by omega)), h.own.kept (Rw.grown_below hb none) (by cases v.ownBlock <;> simp), fun r hr => ?_, h.bel.trans (hb.mono h.bel.size), h.lo⟩
  obtain ⟨q1, q2, q3, q4, q5⟩ := h.each r hr
  exact ⟨q1.of_block (hb.block _ q3), q2, Nat.lt_of_lt_of_le q3 hb.size, q4, q5⟩

theorem PlSt.push {r : Ev} {v9 : Value} {w9 : World} {o : Obj} {K : Nat} (st : PlSt w W g A n cap zs rs v) (hri : RI W r.blk r.ints) (h1 : g < r.blk) (h2 : r.blk < W.heap.size) (h3 : some r.blk ≠ v.ownBlock) (h4 : r.ints.length ≤ 3)
    (hown : w9.ownsRow (g + 1) 29 1 v9 (rs.length + 1) (rs.map Ev.val ++ [r.val])) (hgr : (W.alloc o).grownBy w9 v.ownBlock) (hat : v9.ownBlock = v.ownBlock ∨ v9.ownBlock = some K) (hK : W.heap.size ≤ K) : PlSt w w9 g A n cap zs (rs ++ [r]) v9 := by
  have hv := fun k e => st.own.lt k e
  have hcl := st.cur.lt
  have hbs := st.bel.size
  have hs9 : W.heap.size + 1 ≤ w9.heap.size := by have := hgr.size; simpa using this
  have keep : ∀ k, k < W.heap.size → some k ≠ v.ownBlock → w9.heap[k]? = W.heap[k]? := fun k hk hne => (hgr.block k (by simp; omega) hne).trans (Below.heap_alloc _ _ _ hk)
  have apart : ∀ k, k < W.heap.size → some k ≠ v.ownBlock → some k ≠ v9.ownBlock := fun k hk hne => by
    rcases hat with e | e
    · rw [e]; exact hne
    · rw [e]; intro e'; injection e' with e'; omega
  have hb9 : Below (g + 1) W w9 := ⟨hgr.os, hgr.tape, hgr.output, by omega, fun k hk => keep k (by omega) (fun e => by have := (hv k e.symm).1; omega)⟩
  refine ⟨st.cur.keep hb9, by rw [List.length_append, List.map_append]; exact hown, fun r' hr' => ?_, st.bel.trans (hb9.mono (by have := st.lo; omega)), st.lo⟩
  rcases List.mem_append.1 hr' with h | h
  · obtain ⟨q1, q2, q3, q4, q5⟩ := st.each r' h
    exact ⟨q1.of_block (keep _ q3 q4), q2, by omega, apart _ q3 q4, q5⟩
  · obtain rfl := List.mem_singleton.1 h
    exact ⟨hri.of_block (keep _ h2 h3), h1, by omega, apart _ h2 h3, h4⟩

theorem owns_setv {B b c m : Nat} {xs : List Value} {e : TypeId} (h : W.ownsRow B e 1 (.slice (some ⟨b, 0, none⟩) m c) m xs) (i : Nat) (x : Value) : (W.setCell ⟨b, i, none⟩ x).ownsRow B e 1 (.slice (some ⟨b, 0, none⟩) m c) m (xs.set i x) := by
  refine ⟨by rw [List.length_set]; exact h.1, ?_⟩
  rcases h.2 with ⟨hv, _⟩ | ⟨b', c', cur, hv, hB, hg, hle, hmx, hsz, htk⟩
  · cases hv
  · injection hv with e1 _ e2
    injection e1 with e1
    injection e1 with e1
    subst e1 e2
    refine .inr ⟨b, c, cur.setIfInBounds i x, rfl, hB, heap_set hg _ _, hle, hmx, by simpa using hsz, ?_⟩
    rw [Array.toList_setIfInBounds, List.take_set, htk]

/-- The last event is cut. -/
theorem PlSt.cut {r r2 : Ev} {b c m : Nat} (st : PlSt w W g A n cap zs (rs ++ [r]) (.slice (some ⟨b, 0, none⟩) m c)) (hm : rs.length + 1 = m) (hb : r2.blk = r.blk) (hri : RI W r2.blk r2.ints) (hl : r2.ints.length ≤ 3) :
    PlSt w (W.setCell ⟨b, rs.length, none⟩ r2.val) g A n cap zs (rs ++ [r2]) (.slice (some ⟨b, 0, none⟩) m c) := by
  have hv := (st.own.lt b rfl).1
  have hbl : Below (g + 1) W (W.setCell ⟨b, rs.length, none⟩ r2.val) := (Below.refl (g + 1) W).setCell (p := ⟨b, rs.length, none⟩) hv _
  have hblk : ∀ k, k ≠ b → (W.setCell ⟨b, rs.length, none⟩ r2.val).heap[k]? = W.heap[k]? := fun k hk => Below.heap_setCell _ _ _ _ hk
  refine ⟨st.cur.keep hbl, ?_, fun r' hr' => ?_, st.bel.trans (hbl.mono (by have := st.lo; omega)), st.lo⟩
  · have h := st.own
    rw [List.length_append, List.map_append] at h
    rw [List.length_append, List.map_append]
    simp only [List.length_cons, List.length_nil, Nat.zero_add, List.map_cons, List.map_nil] at h ⊢
    rw [hm] at h ⊢
    have q := owns_setv h rs.length r2.val
    rw [List.set_append_right _ _ (by simp)] at q
    simpa using q
  · have hz : (W.setCell ⟨b, rs.length, none⟩ r2.val).heap.size = W.heap.size := by simp [World.setCell]
    rcases List.mem_append.1 hr' with h | h
    · obtain ⟨q1, q2, q3, q4, q5⟩ := st.each r' (List.mem_append.2 (.inl h))
      exact ⟨q1.of_block (hblk _ (fun e => q4 (by rw [e]; rfl))), q2, by omega, q4, q5⟩
    · obtain rfl := List.mem_singleton.1 h
      obtain ⟨q1, q2, q3, q4, q5⟩ := st.each r (List.mem_append.2 (.inr (List.mem_singleton.2 rfl)))
      rw [← hb] at q2 q3 q4
      exact ⟨hri.of_block (hblk _ (fun e => q4 (by rw [e]; rfl))), q2, by omega, q4, hl⟩

theorem PlSt.intss (h : PlSt w W g A n cap zs rs v) : ∃ A' c', v = .slice A' rs.length c' ∧ IntsS W A' (rs.map Ev.ints) := by
  obtain ⟨A', c', rfl⟩ := owns_form h.own
  refine ⟨A', c', rfl, fun hp => ?_⟩
  rw [List.length_map] at hp
  have hcs := h.own
  rcases h.own.2 with ⟨hv, hn⟩ | ⟨b, c2, cur, hv, _⟩
  · omega
  · injection hv with hA _ _
    subst hA
    refine ⟨b, 0, rfl, fun i hi => ?_⟩
    rw [List.length_map] at hi
    have hm : rs[i] ∈ rs := List.getElem_mem hi
    obtain ⟨q1, _⟩ := h.each _ hm
    have hg : (rs.map Ev.ints).getD i [] = rs[i].ints := by simp [List.getD_eq_getElem?_getD, hi]
    rw [hg]
    refine ⟨some ⟨rs[i].blk, 0, none⟩, rs[i].room, ?_, RI.ints q1⟩
    rw [Nat.zero_add, hcs.cellAt i (by omega)]
    simp [hi, Ev.val]
end

theorem infoInts : (Tryd.prog.info? 29).map (fun i => (i.zero, i.size, i.bytes)) = some (some (.slice none 0 0), 1, 24) := by kernel_rfl

theorem size30_any (A : Option Addr) (n cap : Nat) (w : World) (hn : n ≤ 1048576) :
    Calls Tryd.prog 31 #[.slice A n cap, .int .i64 30] w fun e w' => (∃ x, e = .returned (.int .i64 x) ∧ 2 ≤ x ∧ x ≤ 30) ∧ w = w' := by
  obtain ⟨p, hp⟩ : ∃ p : Nat, n / 16 = p := ⟨_, rfl⟩
  have hd : ((n : Int)).tdiv 16 = (p : Int) := by
    rw [Int.tdiv_eq_ediv_of_nonneg (by omega)]; omega
  have hp1 : p ≤ 1048576 := by omega
  clear hp
  have h1 : 0 ≤ (2 : Int) + (p : Int) ∧ (2 : Int) + (p : Int) ≤ 1048578 := by omega
  have hw : IntKind.i64.wrap (p : Int) = (p : Int) := IntWalk.i64_in _ (by omega)
  have hw2 : IntKind.i64.wrap (2 + (p : Int)) = 2 + (p : Int) := IntWalk.i64_in _ (by omega)
  by_cases h60 : (30 : Int) < 2 + (p : Int)
  · go_enter Tryd.func31, Tryd.ntmps31
    go_wp2
    go_ret
    exact ⟨⟨30, rfl, by omega, by omega⟩, rfl⟩
  · go_enter Tryd.func31, Tryd.ntmps31
    go_wp2
    go_ret
    exact ⟨⟨_, rfl, by omega, by omega⟩, rfl⟩
end Go.Proofs.YtbmfleakldhabaaDoor.Draw
