/- The slots of a slice as an array: what linksOf's struct literal builds; whole loads and stores of the program's form. What linksOf answers. What QueueOk answers. The law of QueueOk walked. -/
import Derived.Test.YtpjelojmkmednaaLq6
import Derived.Laws.Tables
import Derived.Lib.LazyBuf
import Derived.Test.YtpjelojmkmednaaLq1
namespace Go.Proofs.Ytpjelojmkmednaa.Que
open Go.RowKit Go.Deep Base Rng Go.Shelf

theorem lay_list (off : Nat) : ∀ (l : List Value) (k : Nat) (cs : Array Value) (i : Nat),
    ((l.zipIdx k).foldl (fun (cs : Array Value) (p : Value × Nat) => cs.setIfInBounds (off + p.2) p.1) cs)[i]? = if off + k ≤ i ∧ i < off + k + l.length ∧ i < cs.size then l[i - (off + k)]? else cs[i]?
  | [], k, cs, i => by simp; intros; omega
  | v :: l, k, cs, i => by
    rw [List.zipIdx_cons, List.foldl_cons, lay_list off l (k + 1)]
    simp only [Array.size_setIfInBounds, List.length_cons]
    by_cases h1 : off + (k + 1) ≤ i ∧ i < off + (k + 1) + l.length ∧ i < cs.size
    · rw [if_pos h1, if_pos (by omega), show i - (off + k) = (i - (off + (k + 1))) + 1 from by omega, List.getElem?_cons_succ]
    · rw [if_neg h1]
      by_cases h2 : i = off + k
      · subst h2
        by_cases h3 : off + k < cs.size
        · rw [if_pos (by omega)]; simp [h3]
        · rw [if_neg (by omega)]; simp [h3]
      · rw [if_neg (by omega), Array.getElem?_setIfInBounds_ne (by omega)]

theorem built_fill (parts : List (Nat × Value)) : Try.prog.built 94 parts = Instr.fill (fun x => ([(0, 240), (240, 1), (241, 1), (242, 1), (243, 1)] : List (Nat × Nat)).toArray[x]?) Try.zeroCells94 parts := by
  kernel_rfl

theorem cells_at4 (s : Sl) {j : Nat} (h : j < 4) : s.cells[j]? = some (s.at j) := by
  rcases j with _ | _ | _ | _ | j <;> first | rfl | omega

theorem cellsL_lk {ss : List Sl} (hn : ss.length = 60) {i : Nat} (h : i < 240) (f l r c : Int) : (cellsL ss)[i]? = some (lkF ss f l r c i) := by
  have h1 := cellsL_at ss (i / 4) (i % 4) (by omega) (by omega)
  rw [show i / 4 * 4 + i % 4 = i from by omega] at h1
  rw [h1, cells_at4 _ (by omega), lkF, if_pos h]
  rfl

theorem lkA_set242 (ss : List Sl) (f l r c x : Int) : (lkA ss f l r c).setIfInBounds 242 (.int .i64 x) = lkA ss f l x c := by
  apply Array.ext_getElem?
  intro i
  rw [Array.getElem?_setIfInBounds]
  by_cases e : 242 = i
  · subst e; rw [if_pos rfl, if_pos (by rw [lkA_size]; omega), lkA_at _ _ _ _ _ (by omega)]; rfl
  · rw [if_neg e]
    by_cases hi : i < 244
    · rw [lkA_at _ _ _ _ _ hi, lkA_at _ _ _ _ _ hi]
      unfold lkF
      have e' : ¬ i = 242 := fun h => e h.symm
      by_cases h0 : i < 240
      · first | (simp only [h0, if_true]; done) | (simp only [h0, if_true]; rfl)
      by_cases h1 : i = 240
      · first | (simp only [h1]; done) | (simp only [h1]; rfl)
      by_cases h2 : i = 241
      · first | (simp only [h2]; done) | (simp only [h2]; rfl)
      by_cases h3 : i = 242
      · first | exact absurd h3 e' | (simp only [h3]; done) | (simp only [h3]; rfl)
      · first | exact absurd (show i = 243 by omega) e' | (simp only [h0, h1, h2, h3, if_false]; done) | (simp only [h0, h1, h2, h3, if_false]; rfl)
    · rw [lkA_past _ _ _ _ _ hi, lkA_past _ _ _ _ _ hi]
theorem lkA_set243 (ss : List Sl) (f l r c x : Int) : (lkA ss f l r c).setIfInBounds 243 (.int .i64 x) = lkA ss f l r x := by
  apply Array.ext_getElem?
  intro i
  rw [Array.getElem?_setIfInBounds]
  by_cases e : 243 = i
  · subst e; rw [if_pos rfl, if_pos (by rw [lkA_size]; omega), lkA_at _ _ _ _ _ (by omega)]; rfl
  · rw [if_neg e]
    by_cases hi : i < 244
    · rw [lkA_at _ _ _ _ _ hi, lkA_at _ _ _ _ _ hi]
      unfold lkF
      have e' : ¬ i = 243 := fun h => e h.symm
      by_cases h0 : i < 240
      · first | (simp only [h0, if_true]; done) | (simp only [h0, if_true]; rfl)
      by_cases h1 : i = 240
      · first | (simp only [h1]; done) | (simp only [h1]; rfl)
      by_cases h2 : i = 241
      · first | (simp only [h2]; done) | (simp only [h2]; rfl)
      by_cases h3 : i = 242
      · first | exact absurd h3 e' | (simp only [h3]; done) | (simp only [h3]; rfl)
      · first | exact absurd (show i = 243 by omega) e' | (simp only [h0, h1, h2, h3, if_false]; done) | (simp only [h0, h1, h2, h3, if_false]; rfl)
    · rw [lkA_past _ _ _ _ _ hi, lkA_past _ _ _ _ _ hi]

theorem built_links {ss : List Sl} (hn : ss.length = 60) (f l r c : Int) : Try.prog.built 94 [(0, .agg (cellsL ss).toArray), (1, .int .i64 f), (2, .int .i64 l), (3, .int .i64 r), (4, .int .i64 c)] = some (lkA ss f l r c) := by
  have hl : (cellsL ss).length = 240 := by rw [cellsL_len, hn]
  have hz : (Try.zeroCells94).size = 244 := by rw [zero_links, lkA_size]
  rw [built_fill]
  have key : ((cellsL ss).zipIdx.foldl (fun (cs : Array Value) (p : Value × Nat) => cs.setIfInBounds (0 + p.2) p.1) Try.zeroCells94) = lkA ss 0 0 0 0 := by
    apply Array.ext_getElem?
    intro i
    rw [lay_list, hl, hz]
    by_cases h : i < 240
    · rw [if_pos (by omega), lkA_at _ _ _ _ _ (by omega), show i - (0 + 0) = i from by omega]
      exact cellsL_lk hn h 0 0 0 0
    · rw [if_neg (by omega), zero_links]
      by_cases h2 : i < 244
      · rw [lkA_at _ _ _ _ _ h2, lkA_at _ _ _ _ _ h2, lkF, lkF, if_neg h, if_neg h]
      · rw [lkA_past _ _ _ _ _ h2, lkA_past _ _ _ _ _ h2]
  simp only [Nat.zero_add] at key
  simp [Instr.fill, Value.cells, hl, hz, key, lkA_size, lkA_set240, lkA_set241, lkA_set242, lkA_set243]

theorem still_load_mid {P : Program} {op : Oper} {a : Act} {w : World} {K : Act → Prop} (ty : TypeId) (x : Operand) (ho : op.op = .load ty x) (b o : Nat) (hx : a.eval x = .pointer (some ⟨b, o, none⟩)) (cs : List Value) (d : TypeDesc)
    (hc : w.rangeAt b o cs) (hu : P.underlying ty = some d) (hd : d.isRow = true) (hi : (P.info? ty).map (·.size) = some cs.length) (h : K (a.put op.dst (.agg cs.toArray))) : op.still P a w K := by
  unfold Oper.still execOp
  simp only [ho, hx, Instr.loadAt, Instr.sureAddr, Sem.run_bind, Sem.run_pure, Result.andThen_ok, run_loadVar_mid w b o ty cs d hc hu hd hi]
  exact ⟨rfl, h⟩

theorem still_build {P : Program} {op : Oper} {a : Act} {w : World} {K : Act → Prop} (t : TypeId) (parts : Array (Nat × Operand)) (ho : op.op = .build t parts) (cells : Array Value)
    (hf : P.built t (parts.map fun (i, x) => (i, a.eval x)).toList = some cells) (h : K (a.put op.dst (.agg cells))) : op.still P a w K := by
  unfold Oper.still execOp
  simp only [ho, Sem.run_bind, run_build w t _ cells hf, Result.andThen_ok]
  exact ⟨rfl, h⟩

/-- The whole form stored into a block that is one. -/
theorem lk_store {w : World} {b : Nat} {s s' : List Sl} {f l r c f' l' r' c' : Int} (h : Lk w b s f l r c) : Lk (w.setCells b 0 (lkA s' f' l' r' c').toList) b s' f' l' r' c' := by
  refine lk_of_row ((rowIs_setCells _ 0 w _ h.row).congr fun j hj => ?_)
  rw [if_pos (by simp [lkA_size]; omega)]
  have := lkA_at s' f' l' r' c' hj
  simp [this]
end Go.Proofs.Ytpjelojmkmednaa.Que

namespace Go.Proofs.Ytpjelojmkmednaa.Que
open Go.RowKit Go.Deep Base Rng Go.Shelf
attribute [local go_sem] Instr.arrayAt

def LinksEnd (w : World) (ss : List Sl) (f l r c : Int) (e : Ending) (w' : World) : Prop :=
  ∃ s' f' l' r' c', e = .returned (.tuple #[.agg (lkA s' f' l' r' c'), .bool (okQ ss f l r c)]) ∧ (ss.length = 60 → s' = ss ∧ f' = f ∧ l' = l ∧ r' = r ∧ c' = c) ∧ Below w.heap.size w w'

theorem Lk.range244 {w : World} {b : Nat} {ss : List Sl} {f l r c : Int} (h : Lk w b ss f l r c) : w.rangeAt b 0 (lkA ss f l r c).toList := fun j v hv => by
  have hj : j < 244 := by
    have := (List.getElem?_eq_some_iff.1 hv).1
    simpa [lkA_size] using this
  have h1 := lkA_at ss f l r c hj
  rw [Array.getElem?_toList, h1] at hv
  cases hv
  rw [Nat.zero_add]
  exact h.row.cell hj

theorem load_links {w : World} {b : Nat} {ss : List Sl} {f l r c : Int} (h : Lk w b ss f l r c) : (loadVar 94 ⟨b, 0, none⟩).run Try.prog w = .ok (.agg (lkA ss f l r c)) w := by
  have h1 := run_loadVar_mid (P := Try.prog) w b 0 94 (lkA ss f l r c).toList _ h.range244 Try.underlying94 rfl (by rw [info_links, Array.length_toList, lkA_size])
  simpa using h1

def zS : List Sl := List.replicate 60 zSl
theorem zero_links' : Try.zeroCells94 = lkA zS 0 0 0 0 := zero_links
theorem Rd.range {w : World} {g : Nat} {ss : List Sl} (h : Rd w g ss) : w.rangeAt g 0 (cellsL ss) := fun j v hv => by
  have := news_rd h j v hv
  rw [Addr.add_mid] at this
  exact this

/-- The box of a queue argument, and its slots. -/
def LBox (B g cap : Nat) (ss : List Sl) (f l r c : Int) (V : World) : Prop :=
  V.cell? ⟨B, 0, none⟩ = some (.slice (some ⟨g, 0, none⟩) 60 cap) ∧ V.cell? ⟨B, 1, none⟩ = some (.int .i64 f) ∧ V.cell? ⟨B, 2, none⟩ = some (.int .i64 l) ∧ V.cell? ⟨B, 3, none⟩ = some (.int .i64 r) ∧ V.cell? ⟨B, 4, none⟩ = some (.int .i64 c) ∧ V.rangeAt g 0 (cellsL ss)
theorem LBox.alloc {B g cap : Nat} {ss : List Sl} {f l r c : Int} {V : World} (h : LBox B g cap ss f l r c V) (o : Obj) : LBox B g cap ss f l r c (V.alloc o) := by
  obtain ⟨h0, h1, h2, h3, h4, h5⟩ := h
  have k : ∀ {p : Addr} {v : Value}, V.cell? p = some v → (V.alloc o).cell? p = some v := fun {p v} hp => (World.cell?_alloc_some V p o (by rw [hp]; rfl)).trans hp
  exact ⟨k h0, k h1, k h2, k h3, k h4, fun j v hv => k (h5 j v hv)⟩

theorem yields_build {P : Program} {ops : Array Oper} {S : World → Prop} {op : Oper} {a : Act} (hw : Region.wanted op (yielded ops a.tmps) = true) (t : TypeId) (parts : Array (Nat × Operand)) (ho : op.op = .build t parts) (cells : Array Value)
    (hf : P.built t (parts.map fun (i, x) => (i, a.eval x)).toList = some cells) : YieldsIf P ops S op (.agg cells) a :=
  .inl ⟨hw, fun w _ => by
    unfold execOp
    simp only [ho, Sem.run_bind, run_build w t _ cells hf, Result.andThen_ok]
    rfl⟩

theorem yields_links {ops : Array Oper} {S : World → Prop} {op : Oper} {a : Act} {b : Nat} {ss : List Sl} {f l r c : Int} (hw : Region.wanted op (yielded ops a.tmps) = true) (x : Operand) (ho : op.op = .load 94 x)
    (hx : a.eval x = .pointer (some ⟨b, 0, none⟩)) (hS : ∀ w, S w → Lk w b ss f l r c) : YieldsIf Try.prog ops S op (.agg (lkA ss f l r c)) a :=
  .inl ⟨hw, fun w h => by
    unfold execOp
    simp only [ho, hx, Instr.loadAt, Instr.sureAddr, Sem.run_bind, Sem.run_pure, Result.andThen_ok, load_links (hS w h)]⟩

theorem Lk.there {w : World} {b : Nat} {ss : List Sl} {f l r c : Int} (h : Lk w b ss f l r c) {n : Nat} (hn : n = 244) : w.there b 0 n := by
  subst hn
  intro j hj
  rw [Nat.zero_add]
  exact ⟨by rw [h.row.cell hj]; rfl, h.row.frozen j⟩

set_option maxRecDepth 100000 in
set_option maxHeartbeats 1000000 in
theorem linksOf_any (A : Option Addr) (n cap : Nat) (ss : List Sl) (f l r c : Int) (lo hi : Nat) (w : World) (hn : ss.length = n) (h : SlV w lo hi A ss) (hhi : hi ≤ w.heap.size) :
    Calls Try.prog 80 #[.agg #[.slice A n cap, .int .i64 f, .int .i64 l, .int .i64 r, .int .i64 c]] w (LinksEnd w ss f l r c) := by
  have Hn := Lib.hid hn
  have HS := Lib.hid h
  clear h hn
  by_cases h60 : n = 60
  · subst h60
    obtain ⟨g, rfl, hlo, hg, hrd⟩ := HS.out (by rw [Hn.out]; omega)
    have hlt : g < w.heap.size := Nat.lt_of_lt_of_le hg hhi
    clear hlo hg
    have Hrd := Lib.hid hrd
    clear hrd HS
    go_enter Try.func80, Try.ntmps80
    go_wp2_with fail
    obtain ⟨W0, hW0⟩ : ∃ W0, (w.alloc (.cells #[.slice (some ⟨g, 0, none⟩) 60 cap, .int .i64 f, .int .i64 l, .int .i64 r, .int .i64 c] 26)).alloc (.cells Try.zeroCells94 94) = W0 := ⟨_, rfl⟩
    rw [hW0]
    have hB0 : Below w.heap.size w W0 := by rw [← hW0]; exact ((Below.refl _ _).alloc (Nat.le_refl _) _).alloc (by simp) _
    have hs0 : W0.heap.size = w.heap.size + 1 + 1 := by rw [← hW0]; simp
    have hL0 : Lk W0 (w.heap.size + 1) zS 0 0 0 0 := by
      rw [← hW0, zero_links']
      have h := heap_alloc_new (w.alloc (.cells #[.slice (some ⟨g, 0, none⟩) 60 cap, .int .i64 f, .int .i64 l, .int .i64 r, .int .i64 c] 26)) (.cells (lkA zS 0 0 0 0) 94)
      simp only [World.size_alloc] at h
      exact h
    have q0 : W0.cell? ⟨w.heap.size, 0, none⟩ = some (.slice (some ⟨g, 0, none⟩) 60 cap) := by rw [← hW0]; simp [go_sem]
    have q1 : W0.cell? ⟨w.heap.size, 1, none⟩ = some (.int .i64 f) := by rw [← hW0]; simp [go_sem]
    have q2 : W0.cell? ⟨w.heap.size, 2, none⟩ = some (.int .i64 l) := by rw [← hW0]; simp [go_sem]
    have q3 : W0.cell? ⟨w.heap.size, 3, none⟩ = some (.int .i64 r) := by rw [← hW0]; simp [go_sem]
    have q4 : W0.cell? ⟨w.heap.size, 4, none⟩ = some (.int .i64 c) := by rw [← hW0]; simp [go_sem]
    have qr : W0.rangeAt g 0 (cellsL ss) := (Hrd.out.of_block (hB0.block g hlt)).range
    have HS0 : Hid (LBox w.heap.size g cap ss f l r c W0.drew) := ⟨q0, q1, q2, q3, q4, qr⟩
    have HL0 := Lib.hid hL0
    have HB0 := Lib.hid hB0
    clear hW0 q0 q1 q2 q3 q4 qr hL0 hB0
    refine wp_region_held_drew (S := LBox w.heap.size g cap ss f l r c) (by kernel_rfl) HS0.out (fun _ => ?_)
    refine wpAnyH_take (i := 0) (v := (.pointer (some ⟨w.heap.size, 0, none⟩))) rfl (by kernel_rfl) (by kernel_rfl) (by kernel_rfl) (fun _ _ _ h => h) (.inl ⟨rfl, fun V hS => ?y0⟩) HS0.out ?_
    case y0 =>
      obtain ⟨s0, s1, s2, s3, s4, s5⟩ := hS
      clear s5
      go_simp
    go_simp
    refine wpAnyH_take (i := 1) (v := (.slice (some ⟨g, 0, none⟩) 60 cap)) rfl (by kernel_rfl) (by kernel_rfl) (by kernel_rfl) (fun _ _ _ h => h) (.inl ⟨rfl, fun V hS => ?y0⟩) HS0.out ?_
    case y0 =>
      obtain ⟨s0, s1, s2, s3, s4, s5⟩ := hS
      clear s5
      go_simp
    go_simp
    refine wpAnyH_take (i := 2) (v := (.pointer (some ⟨g, 0, none⟩))) rfl (by kernel_rfl) (by kernel_rfl) (by kernel_rfl) (fun _ _ _ h => h) (.inl ⟨rfl, fun V hS => ?y0⟩) HS0.out ?_
    case y0 =>
      obtain ⟨s0, s1, s2, s3, s4, s5⟩ := hS
      clear s5
      go_simp
    go_simp
    refine wpAnyH_take (i := 3) (v := .agg (cellsL ss).toArray) rfl (by kernel_rfl) (by kernel_rfl) (by kernel_rfl) (fun _ _ _ h => h) (yieldsIf_load_mid (by rfl) _ _ rfl g 0 rfl (cellsL ss) _ (fun V hS => hS.2.2.2.2.2) Try.underlying92 rfl (by rw [infoSlots, cellsL_len, Hn.out])) HS0.out ?_
    go_simp
    refine wpAnyH_take (i := 4) (v := (.pointer (some ⟨w.heap.size, 1, none⟩))) rfl (by kernel_rfl) (by kernel_rfl) (by kernel_rfl) (fun _ _ _ h => h) (.inl ⟨rfl, fun V hS => ?y0⟩) HS0.out ?_
    case y0 =>
      obtain ⟨s0, s1, s2, s3, s4, s5⟩ := hS
      clear s5
      go_simp
    go_simp
    refine wpAnyH_take (i := 5) (v := (.int .i64 f)) rfl (by kernel_rfl) (by kernel_rfl) (by kernel_rfl) (fun _ _ _ h => h) (.inl ⟨rfl, fun V hS => ?y0⟩) HS0.out ?_
    case y0 =>
      obtain ⟨s0, s1, s2, s3, s4, s5⟩ := hS
      clear s5
      go_simp
    go_simp
    refine wpAnyH_take (i := 6) (v := (.pointer (some ⟨w.heap.size, 2, none⟩))) rfl (by kernel_rfl) (by kernel_rfl) (by kernel_rfl) (fun _ _ _ h => h) (.inl ⟨rfl, fun V hS => ?y0⟩) HS0.out ?_
    case y0 =>
      obtain ⟨s0, s1, s2, s3, s4, s5⟩ := hS
      clear s5
      go_simp
    go_simp
    refine wpAnyH_take (i := 7) (v := (.int .i64 l)) rfl (by kernel_rfl) (by kernel_rfl) (by kernel_rfl) (fun _ _ _ h => h) (.inl ⟨rfl, fun V hS => ?y0⟩) HS0.out ?_
    case y0 =>
      obtain ⟨s0, s1, s2, s3, s4, s5⟩ := hS
      clear s5
      go_simp
    go_simp
    refine wpAnyH_take (i := 8) (v := (.pointer (some ⟨w.heap.size, 3, none⟩))) rfl (by kernel_rfl) (by kernel_rfl) (by kernel_rfl) (fun _ _ _ h => h) (.inl ⟨rfl, fun V hS => ?y0⟩) HS0.out ?_
    case y0 =>
      obtain ⟨s0, s1, s2, s3, s4, s5⟩ := hS
      clear s5
      go_simp
    go_simp
    refine wpAnyH_take (i := 9) (v := (.int .i64 r)) rfl (by kernel_rfl) (by kernel_rfl) (by kernel_rfl) (fun _ _ _ h => h) (.inl ⟨rfl, fun V hS => ?y0⟩) HS0.out ?_
    case y0 =>
      obtain ⟨s0, s1, s2, s3, s4, s5⟩ := hS
      clear s5
      go_simp
    go_simp
    refine wpAnyH_take (i := 10) (v := (.pointer (some ⟨w.heap.size, 4, none⟩))) rfl (by kernel_rfl) (by kernel_rfl) (by kernel_rfl) (fun _ _ _ h => h) (.inl ⟨rfl, fun V hS => ?y0⟩) HS0.out ?_
    case y0 =>
      obtain ⟨s0, s1, s2, s3, s4, s5⟩ := hS
      clear s5
      go_simp
    go_simp
    refine wpAnyH_take (i := 11) (v := (.int .i64 c)) rfl (by kernel_rfl) (by kernel_rfl) (by kernel_rfl) (fun _ _ _ h => h) (.inl ⟨rfl, fun V hS => ?y0⟩) HS0.out ?_
    case y0 =>
      obtain ⟨s0, s1, s2, s3, s4, s5⟩ := hS
      clear s5
      go_simp
    go_simp
    refine wpAnyH_take (i := 12) (v := .agg (lkA ss f l r c)) rfl (by kernel_rfl) (by kernel_rfl) (by kernel_rfl) (fun _ _ _ h => h) (yields_build (by rfl) _ _ rfl _ ?yb) HS0.out ?_
    case yb =>
      have hb := built_links Hn.out f l r c
      go_simp
    go_simp
    have hsc : Sem.run Try.prog (storeCells ⟨w.heap.size + 1 + 1, 0, none⟩ (lkA ss f l r c).toList) (W0.alloc (.cells Try.zeroCells94 94)).drew = .ok () (W0.alloc (.cells (lkA ss f l r c) 94)).drew := by
      rw [← hs0]
      exact store_links W0.drew Try.zeroCells94 (lkA ss f l r c) (by rw [zero_links, lkA_size]) ss f l r c rfl
    refine wpAnyH_ready (rs := [13]) (by kernel_rfl) (by simp) (AllReadyH.cons rfl (fun K hK => ?_) AllReadyH.nil)
    go_simp
    refine hK.out _ _ (HS0.out.alloc _) (fun _ => ?_)
    refine wpAnyH_ready (rs := [14]) (by kernel_rfl) (by simp) (AllReadyH.cons rfl (fun K hK => ?_) AllReadyH.nil)
    have hsz := lkA_size ss f l r c
    go_simp
    refine hK.out _ _ (HS0.out.alloc _) (fun _ => ?_)
    refine wpAnyH_done (by kernel_rfl) ?_ _
    clear hsc HS0 hsz
    go_wp2_with fail
    obtain ⟨W1, hW1⟩ : ∃ W1, (W0.alloc (.cells (lkA ss f l r c) 94)).drew = W1 := ⟨_, rfl⟩
    rw [hW1]
    have HB1 : Hid (Below w.heap.size w W1) := by rw [← hW1]; exact (HB0.out.alloc (by omega) _).drew
    have HL1 : Hid (Lk W1 (w.heap.size + 1) zS 0 0 0 0) := by rw [← hW1]; exact (HL0.out.alloc _).drew
    have HM1 : Hid (Lk W1 (w.heap.size + 1 + 1) ss f l r c) := by rw [← hW1, ← hs0]; exact heap_alloc_new W0 (.cells (lkA ss f l r c) 94)
    clear hW1 hs0 HL0 HB0
    refine wp_region_held_drew (S := fun V => Lk V (w.heap.size + 1 + 1) ss f l r c) (by kernel_rfl) HM1.out (fun _ => ?_)
    refine wpAnyH_take (i := 0) (v := .agg (lkA ss f l r c)) rfl (by kernel_rfl) (by kernel_rfl) (by kernel_rfl) (fun _ _ _ h => h) (yields_links (by rfl) _ rfl rfl (fun V hS => hS)) HM1.out ?_
    go_simp
    refine wpAnyH_ready (rs := [1]) (by kernel_rfl) (by simp) (AllReadyH.cons rfl (fun K hK => ?_) AllReadyH.nil)
    go_simp
    refine (valid_any (w.heap.size + 1 + 1) f l r c ss W1.drew Hn.out HM1.out.drew).mono ?_
    rintro e w2 ⟨rfl, hb2⟩
    have HM2 := Lib.hid (HM1.out.drew.below hb2)
    have HL2 := Lib.hid (HL1.out.drew.below hb2)
    have HB2 : Hid (Below w.heap.size w w2) := bel_trans HB1.out (bel_of_drew hb2)
    clear hb2
    refine hK.out _ _ HM2.out (fun _ => ?_)
    refine wpAnyH_ready (rs := [2]) (by kernel_rfl) (by simp) (AllReadyH.cons rfl (fun K hK => ?_) AllReadyH.nil)
    rw [if_pos (by rfl)]
    refine wp_store_mid _ _ _ rfl (w.heap.size + 1) 0 (lkA ss f l r c) rfl rfl (HL2.out.there (lkA_size _ _ _ _ _)) (by rw [info_links, lkA_size]) (lkA_one _ _ _ _ _) ?_
    have HL3 := Lib.hid (lk_store (s' := ss) (f' := f) (l' := l) (r' := r) (c' := c) HL2.out)
    have HB3 : Hid (Below w.heap.size w (w2.setCells (w.heap.size + 1) 0 (lkA ss f l r c).toList)) := below_setCells (by omega) _ _ _ HB2.out
    have HM3 : Hid (Lk (w2.setCells (w.heap.size + 1) 0 (lkA ss f l r c).toList) (w.heap.size + 1 + 1) ss f l r c) := lk_of_row (rowIs_setCells_other (by omega) _ _ _ HM2.out.row)
    obtain ⟨W3, hW3⟩ : ∃ W3, w2.setCells (w.heap.size + 1) 0 (lkA ss f l r c).toList = W3 := ⟨_, rfl⟩
    rw [hW3] at HL3 HB3 HM3
    refine hK.out _ _ (by rw [hW3]; exact HM3.out) (fun _ => ?_)
    rw [hW3]
    clear hW3
    go_simp
    refine wpAnyH_ready (rs := [3]) (by kernel_rfl) (by simp) (AllReadyH.cons rfl (fun K hK => ?_) AllReadyH.nil)
    go_simp
    refine hK.out _ _ HM3.out (fun _ => ?_)
    refine wpAnyH_done (by kernel_rfl) ?_ _
    go_wp2_with fail
    have hld := load_links HL3.out
    refine bodyPost_ret (v := .tuple #[.agg (lkA ss f l r c), .bool (okQ ss f l r c)]) ?_ rfl ⟨_, _, _, _, _, rfl, fun _ => ⟨rfl, rfl, rfl, rfl, rfl⟩, HB3.out⟩
    simp [results, Try.results80, asAddr, hld]
  · have hne : ((n : Int) != 60) = true := by simp; omega
    have Ho := Lib.hid (okQ_len (ss := ss) (f := f) (l := l) (r := r) (c := c) (by rw [Hn.out]; exact h60))
    have Hno : Hid (ss.length ≠ 60) := by rw [Hn.out]; exact h60
    clear h60
    have hsc : Sem.run Try.prog (storeCells ⟨w.heap.size + 1, 0, none⟩ Try.zeroCells94.toList) ((w.alloc (.cells #[.slice A n cap, .int .i64 f, .int .i64 l, .int .i64 r, .int .i64 c] 26)).alloc (.cells Try.zeroCells94 94))
      = .ok () ((w.alloc (.cells #[.slice A n cap, .int .i64 f, .int .i64 l, .int .i64 r, .int .i64 c] 26)).alloc (.cells (lkA zS 0 0 0 0) 94)) := by
      have h := store_links (w.alloc (.cells #[.slice A n cap, .int .i64 f, .int .i64 l, .int .i64 r, .int .i64 c] 26)) Try.zeroCells94 Try.zeroCells94 (by rw [zero_links, lkA_size]) zS 0 0 0 0 zero_links'
      simpa using h
    go_enter Try.func80, Try.ntmps80
    go_wp2_with fail
    clear hsc
    have hL : Lk ((w.alloc (.cells #[.slice A n cap, .int .i64 f, .int .i64 l, .int .i64 r, .int .i64 c] 26)).alloc (.cells (lkA zS 0 0 0 0) 94)) (w.heap.size + 1) zS 0 0 0 0 := by
      have h := heap_alloc_new (w.alloc (.cells #[.slice A n cap, .int .i64 f, .int .i64 l, .int .i64 r, .int .i64 c] 26)) (.cells (lkA zS 0 0 0 0) 94)
      simp only [World.size_alloc] at h
      exact h
    have hld := load_links hL
    refine bodyPost_ret (v := .tuple #[.agg (lkA zS 0 0 0 0), .bool (okQ ss f l r c)]) ?_ rfl ⟨_, _, _, _, _, rfl, fun h => absurd h Hno.out, ((Below.refl _ _).alloc (Nat.le_refl _) _).alloc (by simp) _⟩
    rw [Ho.out]
    simp [results, Try.results80, asAddr, hld]
end Go.Proofs.Ytpjelojmkmednaa.Que

namespace Go.Proofs.Ytpjelojmkmednaa.Que
open Go.RowKit Go.Deep Base Rng Go.Shelf

set_option maxRecDepth 100000 in
set_option maxHeartbeats 1000000 in
theorem queueOk_any (A : Option Addr) (n cap : Nat) (ss : List Sl) (f l r c : Int) (lo hi : Nat) (w : World) (hn : ss.length = n) (h : SlV w lo hi A ss) (hhi : hi ≤ w.heap.size) :
    Calls Try.prog 59 #[.agg #[.slice A n cap, .int .i64 f, .int .i64 l, .int .i64 r, .int .i64 c]] w fun e w' => e = .returned (.bool (okQ ss f l r c)) ∧ Below w.heap.size w w' := by
  have Hn := Lib.hid hn
  have HS := Lib.hid h
  have Hhi := Lib.hid hhi
  clear h hn hhi
  go_enter Try.func59, Try.ntmps59
  go_wp2_with fail
  refine (linksOf_any A n cap ss f l r c lo hi _ Hn.out (HS.out.below (bel_alloc w _) Hhi.out) (by have := Hhi.out; simp; omega)).mono ?_
  rintro e w1 ⟨s', f', l', r', c', rfl, _, hb1⟩
  have HB1 := Lib.hid (bel_trans (bel_alloc w _) hb1)
  clear hb1
  obtain ⟨ok, hok⟩ : ∃ ok, okQ ss f l r c = ok := ⟨_, rfl⟩
  rw [hok]
  have Hok := Lib.hid hok
  clear hok
  have hsc := store_links w1 Try.zeroCells94 (lkA s' f' l' r' c') (by rw [zero_links, lkA_size]) s' f' l' r' c' rfl
  have hsz := lkA_size s' f' l' r' c'
  go_wp2_with fail
  go_ret
  exact ⟨by rw [Hok.out]; rfl, HB1.out.alloc (HB1.out.size) _⟩
end Go.Proofs.Ytpjelojmkmednaa.Que

namespace Go.Proofs.Ytpjelojmkmednaa.Que
open Go.RowKit Go.Deep Base

/-- The law's own argument in a box. -/
def LBk (w : World) (g : Nat) (v0 v1 v2 v3 v4 : Value) : Prop := w.heap[g]? = some (.cells #[v0, v1, v2, v3, v4] 48 (0, 0))
theorem LBk.cells {w : World} {g : Nat} {v0 v1 v2 v3 v4 : Value} (h : LBk w g v0 v1 v2 v3 v4) :
    w.cell? ⟨g, 0, none⟩ = some v0 ∧ w.cell? ⟨g, 1, none⟩ = some v1 ∧ w.cell? ⟨g, 2, none⟩ = some v2 ∧ w.cell? ⟨g, 3, none⟩ = some v3 ∧ w.cell? ⟨g, 4, none⟩ = some v4 := by
  have hc : ∀ o, w.cell? ⟨g, o, none⟩ = #[v0, v1, v2, v3, v4][o]? := fun o => cell_of_row _ _ o _ _ (0, 0) h
  refine ⟨?_, ?_, ?_, ?_, ?_⟩ <;> (rw [hc]; rfl)
theorem LBk.lt {w : World} {g : Nat} {v0 v1 v2 v3 v4 : Value} (h : LBk w g v0 v1 v2 v3 v4) : g < w.heap.size := (Array.getElem?_eq_some_iff.1 h).1
theorem LBk.of_block {w w' : World} {g : Nat} {v0 v1 v2 v3 v4 : Value} (h : LBk w g v0 v1 v2 v3 v4) (e : w'.heap[g]? = w.heap[g]?) : LBk w' g v0 v1 v2 v3 v4 := e.trans h
theorem LBk.below {w w' : World} {g : Nat} {v0 v1 v2 v3 v4 : Value} (h : LBk w g v0 v1 v2 v3 v4) (hb : Below w.heap.size w w') : LBk w' g v0 v1 v2 v3 v4 := h.of_block (hb.block g h.lt)
theorem LBk.alloc {w : World} {g : Nat} {v0 v1 v2 v3 v4 : Value} (h : LBk w g v0 v1 v2 v3 v4) (o : Obj) : LBk (w.alloc o) g v0 v1 v2 v3 v4 := h.below (bel_alloc w o)
theorem Blk5.below {w w' : World} {g : Nat} {v0 v1 v2 v3 v4 : Value} (h : Blk5 w g v0 v1 v2 v3 v4) (hb : Below w.heap.size w w') : Blk5 w' g v0 v1 v2 v3 v4 := h.of_block (hb.block g h.lt)

/-- At the laws' last comparison: the box of the kept copy and that of the argument. -/
def Two (x a : Nat) (x0 x1 x2 x3 x4 a0 a1 a2 a3 a4 : Value) (V : World) : Prop := Blk5 V x x0 x1 x2 x3 x4 ∧ LBk V a a0 a1 a2 a3 a4


end Go.Proofs.Ytpjelojmkmednaa.Que
