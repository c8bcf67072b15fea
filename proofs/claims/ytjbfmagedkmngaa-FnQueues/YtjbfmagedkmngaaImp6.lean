/- The slots of a slice as an array: what linksOf's struct literal builds; whole loads and stores of the program's form. -/
import Derived.Test.YtjbfmagedkmngaaImp5
import Derived.Laws.Tables
import Derived.Lib.LazyBuf
namespace Go.Proofs.Ytjbfmagedkmngaa.Que
open Go.RowKit Go.Deep Base Rng Go.Shelf

theorem lay_list (off : Nat) : ∀ (l : List Value) (k : Nat) (cs : Array Value) (i : Nat),
    ((l.zipIdx k).foldl (fun (cs : Array Value) (p : Value × Nat) => cs.setIfInBounds (off + p.2) p.1) cs)[i]? = if off + k ≤ i ∧ i < off + k + l.length ∧ i < cs.size then l[i - (off + k)]? else cs[i]?
  | [], k, cs, i => by simp; intros; omega
  | v :: l, k, cs, i => by
    rw [List.zipIdx_cons, List.foldl_cons, lay_list off l (k + 1)]
    simp only [Array.size_setIfInBounds, List.length_cons]
    by_cases h1 : off + (k + 1) ≤ i ∧ i < off + (k + 1) + l.length ∧ i < cs.size
    · rw [if_pos h1, if_pos (by omega), show i - (off + k) = (i - (off + (k + 1))) + 1 from by omega, List.getElem?_cons_succ]
    · rw [if_neg h1]
      by_cases h2 : i = off + k
      · subst h2
        by_cases h3 : off + k < cs.size
        · rw [if_pos (by omega)]; simp [h3]
        · rw [if_neg (by omega)]; simp [h3]
      · rw [if_neg (by omega), Array.getElem?_setIfInBounds_ne (by omega)]

theorem built_fill (parts : List (Nat × Value)) : Try.prog.built 54 parts = Instr.fill (fun x => ([(0, 240), (240, 1), (241, 1), (242, 1), (243, 1)] : List (Nat × Nat)).toArray[x]?) Try.zeroCells54 parts := by
  kernel_rfl

theorem cells_at4 (s : Sl) {j : Nat} (h : j < 4) : s.cells[j]? = some (s.at j) := by
  rcases j with _ | _ | _ | _ | j <;> first | rfl | omega

theorem cellsL_lk {ss : List Sl} (hn : ss.length = 60) {i : Nat} (h : i < 240) (f l r c : Int) : (cellsL ss)[i]? = some (lkF ss f l r c i) := by
  have h1 := cellsL_at ss (i / 4) (i % 4) (by omega) (by omega)
  rw [show i / 4 * 4 + i % 4 = i from by omega] at h1
  rw [h1, cells_at4 _ (by omega), lkF, if_pos h]
  rfl

theorem lkA_set242 (ss : List Sl) (f l r c x : Int) : (lkA ss f l r c).setIfInBounds 242 (.int .i64 x) = lkA ss f l x c := by
  apply Array.ext_getElem?
  intro i
  rw [Array.getElem?_setIfInBounds]
  by_cases e : 242 = i
  · subst e; rw [if_pos rfl, if_pos (by rw [lkA_size]; omega), lkA_at _ _ _ _ _ (by omega)]; rfl
  · rw [if_neg e]
    by_cases hi : i < 244
    · rw [lkA_at _ _ _ _ _ hi, lkA_at _ _ _ _ _ hi]
      unfold lkF
      have e' : ¬ i = 242 := fun h => e h.symm
      by_cases h0 : i < 240
      · first | (simp only [h0, if_true]; done) | (simp only [h0, if_true]; rfl)
      by_cases h1 : i = 240
      · first | (simp only [h1]; done) | (simp only [h1]; rfl)
      by_cases h2 : i = 241
      · first | (simp only [h2]; done) | (simp only [h2]; rfl)
      by_cases h3 : i = 242
      · first | exact absurd h3 e' | (simp only [h3]; done) | (simp only [h3]; rfl)
      · first | exact absurd (show i = 243 by omega) e' | (simp only [h0, h1, h2, h3, if_false]; done) | (simp only [h0, h1, h2, h3, if_false]; rfl)
    · rw [lkA_past _ _ _ _ _ hi, lkA_past _ _ _ _ _ hi]
theorem lkA_set243 (ss : List Sl) (f l r c x : Int) : (lkA ss f l r c).setIfInBounds 243 (.int .i64 x) = lkA ss f l r x := by
  apply Array.ext_getElem?
  intro i
  rw [Array.getElem?_setIfInBounds]
  by_cases e : 243 = i
  · subst e; rw [if_pos rfl, if_pos (by rw [lkA_size]; omega), lkA_at _ _ _ _ _ (by omega)]; rfl
  · rw [if_neg e]
    by_cases hi : i < 244
    · rw [lkA_at _ _ _ _ _ hi, lkA_at _ _ _ _ _ hi]
      unfold lkF
      have e' : ¬ i = 243 := fun h => e h.symm
      by_cases h0 : i < 240
      · first | (simp only [h0, if_true]; done) | (simp only [h0, if_true]; rfl)
      by_cases h1 : i = 240
      · first | (simp only [h1]; done) | (simp only [h1]; rfl)
      by_cases h2 : i = 241
      · first | (simp only [h2]; done) | (simp only [h2]; rfl)
      by_cases h3 : i = 242
      · first | exact absurd h3 e' | (simp only [h3]; done) | (simp only [h3]; rfl)
      · first | exact absurd (show i = 243 by omega) e' | (simp only [h0, h1, h2, h3, if_false]; done) | (simp only [h0, h1, h2, h3, if_false]; rfl)
    · rw [lkA_past _ _ _ _ _ hi, lkA_past _ _ _ _ _ hi]

theorem built_links {ss : List Sl} (hn : ss.length = 60) (f l r c : Int) : Try.prog.built 54 [(0, .agg (cellsL ss).toArray), (1, .int .i64 f), (2, .int .i64 l), (3, .int .i64 r), (4, .int .i64 c)] = some (lkA ss f l r c) := by
  have hl : (cellsL ss).length = 240 := by rw [cellsL_len, hn]
  have hz : (Try.zeroCells54).size = 244 := by rw [zero_links, lkA_size]
  rw [built_fill]
  have key : ((cellsL ss).zipIdx.foldl (fun (cs : Array Value) (p : Value × Nat) => cs.setIfInBounds (0 + p.2) p.1) Try.zeroCells54) = lkA ss 0 0 0 0 := by
    apply Array.ext_getElem?
    intro i
    rw [lay_list, hl, hz]
    by_cases h : i < 240
    · rw [if_pos (by omega), lkA_at _ _ _ _ _ (by omega), show i - (0 + 0) = i from by omega]
      exact cellsL_lk hn h 0 0 0 0
    · rw [if_neg (by omega), zero_links]
      by_cases h2 : i < 244
      · rw [lkA_at _ _ _ _ _ h2, lkA_at _ _ _ _ _ h2, lkF, lkF, if_neg h, if_neg h]
      · rw [lkA_past _ _ _ _ _ h2, lkA_past _ _ _ _ _ h2]
  simp only [Nat.zero_add] at key
  simp [Instr.fill, Value.cells, hl, hz, key, lkA_size, lkA_set240, lkA_set241, lkA_set242, lkA_set243]

theorem still_load_mid {P : Program} {op : Oper} {a : Act} {w : World} {K : Act → Prop} (ty : TypeId) (x : Operand) (ho : op.op = .load ty x) (b o : Nat) (hx : a.eval x = .pointer (some ⟨b, o, none⟩)) (cs : List Value) (d : TypeDesc)
    (hc : w.rangeAt b o cs) (hu : P.underlying ty = some d) (hd : d.isRow = true) (hi : (P.info? ty).map (·.size) = some cs.length) (h : K (a.put op.dst (.agg cs.toArray))) : op.still P a w K := by
  unfold Oper.still execOp
  simp only [ho, hx, Instr.loadAt, Instr.sureAddr, Sem.run_bind, Sem.run_pure, Result.andThen_ok, run_loadVar_mid w b o ty cs d hc hu hd hi]
  exact ⟨rfl, h⟩

theorem still_build {P : Program} {op : Oper} {a : Act} {w : World} {K : Act → Prop} (t : TypeId) (parts : Array (Nat × Operand)) (ho : op.op = .build t parts) (cells : Array Value)
    (hf : P.built t (parts.map fun (i, x) => (i, a.eval x)).toList = some cells) (h : K (a.put op.dst (.agg cells))) : op.still P a w K := by
  unfold Oper.still execOp
  simp only [ho, Sem.run_bind, run_build w t _ cells hf, Result.andThen_ok]
  exact ⟨rfl, h⟩

/-- The whole form stored into a block that is one. -/
theorem lk_store {w : World} {b : Nat} {s s' : List Sl} {f l r c f' l' r' c' : Int} (h : Lk w b s f l r c) : Lk (w.setCells b 0 (lkA s' f' l' r' c').toList) b s' f' l' r' c' := by
  refine lk_of_row ((rowIs_setCells _ 0 w _ h.row).congr fun j hj => ?_)
  rw [if_pos (by simp [lkA_size]; omega)]
  have := lkA_at s' f' l' r' c' hj
  simp [this]
end Go.Proofs.Ytjbfmagedkmngaa.Que
