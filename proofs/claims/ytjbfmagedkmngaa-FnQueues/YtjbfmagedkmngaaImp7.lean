/- What linksOf answers. -/
import Derived.Test.YtjbfmagedkmngaaImp6
namespace Go.Proofs.Ytjbfmagedkmngaa.Que
open Go.RowKit Go.Deep Base Rng Go.Shelf
attribute [local go_sem] Instr.arrayAt

def LinksEnd (w : World) (ss : List Sl) (f l r c : Int) (e : Ending) (w' : World) : Prop :=
  ∃ s' f' l' r' c', e = .returned (.tuple #[.agg (lkA s' f' l' r' c'), .bool (okQ ss f l r c)]) ∧ (ss.length = 60 → s' = ss ∧ f' = f ∧ l' = l ∧ r' = r ∧ c' = c) ∧ Below w.heap.size w w'

theorem Lk.range244 {w : World} {b : Nat} {ss : List Sl} {f l r c : Int} (h : Lk w b ss f l r c) : w.rangeAt b 0 (lkA ss f l r c).toList := fun j v hv => by
  have hj : j < 244 := by
    have := (List.getElem?_eq_some_iff.1 hv).1
    simpa [lkA_size] using this
  have h1 := lkA_at ss f l r c hj
  rw [Array.getElem?_toList, h1] at hv
  cases hv
  rw [Nat.zero_add]
  exact h.row.cell hj

theorem load_links {w : World} {b : Nat} {ss : List Sl} {f l r c : Int} (h : Lk w b ss f l r c) : (loadVar 54 ⟨b, 0, none⟩).run Try.prog w = .ok (.agg (lkA ss f l r c)) w := by
  have h1 := run_loadVar_mid (P := Try.prog) w b 0 54 (lkA ss f l r c).toList _ h.range244 Try.underlying54 rfl (by rw [info_links, Array.length_toList, lkA_size])
  simpa using h1

def zS : List Sl := List.replicate 60 zSl
theorem zero_links' : Try.zeroCells54 = lkA zS 0 0 0 0 := zero_links
theorem Rd.range {w : World} {g : Nat} {ss : List Sl} (h : Rd w g ss) : w.rangeAt g 0 (cellsL ss) := fun j v hv => by
  have := news_rd h j v hv
  rw [Addr.add_mid] at this
  exact this

/-- The box of a queue argument, and its slots. -/
def LBox (B g cap : Nat) (ss : List Sl) (f l r c : Int) (V : World) : Prop :=
  V.cell? ⟨B, 0, none⟩ = some (.slice (some ⟨g, 0, none⟩) 60 cap) ∧ V.cell? ⟨B, 1, none⟩ = some (.int .i64 f) ∧ V.cell? ⟨B, 2, none⟩ = some (.int .i64 l) ∧ V.cell? ⟨B, 3, none⟩ = some (.int .i64 r) ∧ V.cell? ⟨B, 4, none⟩ = some (.int .i64 c) ∧ V.rangeAt g 0 (cellsL ss)
theorem LBox.alloc {B g cap : Nat} {ss : List Sl} {f l r c : Int} {V : World} (h : LBox B g cap ss f l r c V) (o : Obj) : LBox B g cap ss f l r c (V.alloc o) := by
  obtain ⟨h0, h1, h2, h3, h4, h5⟩ := h
  have k : ∀ {p : Addr} {v : Value}, V.cell? p = some v → (V.alloc o).cell? p = some v := fun {p v} hp => (World.cell?_alloc_some V p o (by rw [hp]; rfl)).trans hp
  exact ⟨k h0, k h1, k h2, k h3, k h4, fun j v hv => k (h5 j v hv)⟩

theorem yields_build {P : Program} {ops : Array Oper} {S : World → Prop} {op : Oper} {a : Act} (hw : Region.wanted op (yielded ops a.tmps) = true) (t : TypeId) (parts : Array (Nat × Operand)) (ho : op.op = .build t parts) (cells : Array Value)
    (hf : P.built t (parts.map fun (i, x) => (i, a.eval x)).toList = some cells) : YieldsIf P ops S op (.agg cells) a :=
  .inl ⟨hw, fun w _ => by
    unfold execOp
    simp only [ho, Sem.run_bind, run_build w t _ cells hf, Result.andThen_ok]
    rfl⟩

theorem yields_links {ops : Array Oper} {S : World → Prop} {op : Oper} {a : Act} {b : Nat} {ss : List Sl} {f l r c : Int} (hw : Region.wanted op (yielded ops a.tmps) = true) (x : Operand) (ho : op.op = .load 54 x)
    (hx : a.eval x = .pointer (some ⟨b, 0, none⟩)) (hS : ∀ w, S w → Lk w b ss f l r c) : YieldsIf Try.prog ops S op (.agg (lkA ss f l r c)) a :=
  .inl ⟨hw, fun w h => by
    unfold execOp
    simp only [ho, hx, Instr.loadAt, Instr.sureAddr, Sem.run_bind, Sem.run_pure, Result.andThen_ok, load_links (hS w h)]⟩

theorem Lk.there {w : World} {b : Nat} {ss : List Sl} {f l r c : Int} (h : Lk w b ss f l r c) {n : Nat} (hn : n = 244) : w.there b 0 n := by
  subst hn
  intro j hj
  rw [Nat.zero_add]
  exact ⟨by rw [h.row.cell hj]; rfl, h.row.frozen j⟩

set_option maxRecDepth 100000 in
set_option maxHeartbeats 1000000 in
theorem linksOf_any (A : Option Addr) (n cap : Nat) (ss : List Sl) (f l r c : Int) (lo hi : Nat) (w : World) (hn : ss.length = n) (h : SlV w lo hi A ss) (hhi : hi ≤ w.heap.size) :
    Calls Try.prog 44 #[.agg #[.slice A n cap, .int .i64 f, .int .i64 l, .int .i64 r, .int .i64 c]] w (LinksEnd w ss f l r c) := by
  have Hn := Lib.hid hn
  have HS := Lib.hid h
  clear h hn
  by_cases h60 : n = 60
  · subst h60
    obtain ⟨g, rfl, hlo, hg, hrd⟩ := HS.out (by rw [Hn.out]; omega)
    have hlt : g < w.heap.size := Nat.lt_of_lt_of_le hg hhi
    clear hlo hg
    have Hrd := Lib.hid hrd
    clear hrd HS
    go_enter Try.func44, Try.ntmps44
    go_wp2_with fail
    obtain ⟨W0, hW0⟩ : ∃ W0, (w.alloc (.cells #[.slice (some ⟨g, 0, none⟩) 60 cap, .int .i64 f, .int .i64 l, .int .i64 r, .int .i64 c] 26)).alloc (.cells Try.zeroCells54 54) = W0 := ⟨_, rfl⟩
    rw [hW0]
    have hB0 : Below w.heap.size w W0 := by rw [← hW0]; exact ((Below.refl _ _).alloc (Nat.le_refl _) _).alloc (by simp) _
    have hs0 : W0.heap.size = w.heap.size + 1 + 1 := by rw [← hW0]; simp
    have hL0 : Lk W0 (w.heap.size + 1) zS 0 0 0 0 := by
      rw [← hW0, zero_links']
      have h := heap_alloc_new (w.alloc (.cells #[.slice (some ⟨g, 0, none⟩) 60 cap, .int .i64 f, .int .i64 l, .int .i64 r, .int .i64 c] 26)) (.cells (lkA zS 0 0 0 0) 54)
      simp only [World.size_alloc] at h
      exact h
    have q0 : W0.cell? ⟨w.heap.size, 0, none⟩ = some (.slice (some ⟨g, 0, none⟩) 60 cap) := by rw [← hW0]; simp [go_sem]
    have q1 : W0.cell? ⟨w.heap.size, 1, none⟩ = some (.int .i64 f) := by rw [← hW0]; simp [go_sem]
    have q2 : W0.cell? ⟨w.heap.size, 2, none⟩ = some (.int .i64 l) := by rw [← hW0]; simp [go_sem]
    have q3 : W0.cell? ⟨w.heap.size, 3, none⟩ = some (.int .i64 r) := by rw [← hW0]; simp [go_sem]
    have q4 : W0.cell? ⟨w.heap.size, 4, none⟩ = some (.int .i64 c) := by rw [← hW0]; simp [go_sem]
    have qr : W0.rangeAt g 0 (cellsL ss) := (Hrd.out.of_block (hB0.block g hlt)).range
    have HS0 : Hid (LBox w.heap.size g cap ss f l r c W0.drew) := ⟨q0, q1, q2, q3, q4, qr⟩
    have HL0 := Lib.hid hL0
    have HB0 := Lib.hid hB0
    clear hW0 q0 q1 q2 q3 q4 qr hL0 hB0
    refine wp_region_held_drew (S := LBox w.heap.size g cap ss f l r c) (by kernel_rfl) HS0.out (fun _ => ?_)
    refine wpAnyH_take (i := 0) (v := (.pointer (some ⟨w.heap.size, 0, none⟩))) rfl (by kernel_rfl) (by kernel_rfl) (by kernel_rfl) (fun _ _ _ h => h) (.inl ⟨rfl, fun V hS => ?y0⟩) HS0.out ?_
    case y0 =>
      obtain ⟨s0, s1, s2, s3, s4, s5⟩ := hS
      clear s5
      go_simp
    go_simp
    refine wpAnyH_take (i := 1) (v := (.slice (some ⟨g, 0, none⟩) 60 cap)) rfl (by kernel_rfl) (by kernel_rfl) (by kernel_rfl) (fun _ _ _ h => h) (.inl ⟨rfl, fun V hS => ?y0⟩) HS0.out ?_
    case y0 =>
      obtain ⟨s0, s1, s2, s3, s4, s5⟩ := hS
      clear s5
      go_simp
    go_simp
    refine wpAnyH_take (i := 2) (v := (.pointer (some ⟨g, 0, none⟩))) rfl (by kernel_rfl) (by kernel_rfl) (by kernel_rfl) (fun _ _ _ h => h) (.inl ⟨rfl, fun V hS => ?y0⟩) HS0.out ?_
    case y0 =>
      obtain ⟨s0, s1, s2, s3, s4, s5⟩ := hS
      clear s5
      go_simp
    go_simp
    refine wpAnyH_take (i := 3) (v := .agg (cellsL ss).toArray) rfl (by kernel_rfl) (by kernel_rfl) (by kernel_rfl) (fun _ _ _ h => h) (yieldsIf_load_mid (by rfl) _ _ rfl g 0 rfl (cellsL ss) _ (fun V hS => hS.2.2.2.2.2) Try.underlying52 rfl (by rw [infoSlots, cellsL_len, Hn.out])) HS0.out ?_
    go_simp
    refine wpAnyH_take (i := 4) (v := (.pointer (some ⟨w.heap.size, 1, none⟩))) rfl (by kernel_rfl) (by kernel_rfl) (by kernel_rfl) (fun _ _ _ h => h) (.inl ⟨rfl, fun V hS => ?y0⟩) HS0.out ?_
    case y0 =>
      obtain ⟨s0, s1, s2, s3, s4, s5⟩ := hS
      clear s5
      go_simp
    go_simp
    refine wpAnyH_take (i := 5) (v := (.int .i64 f)) rfl (by kernel_rfl) (by kernel_rfl) (by kernel_rfl) (fun _ _ _ h => h) (.inl ⟨rfl, fun V hS => ?y0⟩) HS0.out ?_
    case y0 =>
      obtain ⟨s0, s1, s2, s3, s4, s5⟩ := hS
      clear s5
      go_simp
    go_simp
    refine wpAnyH_take (i := 6) (v := (.pointer (some ⟨w.heap.size, 2, none⟩))) rfl (by kernel_rfl) (by kernel_rfl) (by kernel_rfl) (fun _ _ _ h => h) (.inl ⟨rfl, fun V hS => ?y0⟩) HS0.out ?_
    case y0 =>
      obtain ⟨s0, s1, s2, s3, s4, s5⟩ := hS
      clear s5
      go_simp
    go_simp
    refine wpAnyH_take (i := 7) (v := (.int .i64 l)) rfl (by kernel_rfl) (by kernel_rfl) (by kernel_rfl) (fun _ _ _ h => h) (.inl ⟨rfl, fun V hS => ?y0⟩) HS0.out ?_
    case y0 =>
      obtain ⟨s0, s1, s2, s3, s4, s5⟩ := hS
      clear s5
      go_simp
    go_simp
    refine wpAnyH_take (i := 8) (v := (.pointer (some ⟨w.heap.size, 3, none⟩))) rfl (by kernel_rfl) (by kernel_rfl) (by kernel_rfl) (fun _ _ _ h => h) (.inl ⟨rfl, fun V hS => ?y0⟩) HS0.out ?_
    case y0 =>
      obtain ⟨s0, s1, s2, s3, s4, s5⟩ := hS
      clear s5
      go_simp
    go_simp
    refine wpAnyH_take (i := 9) (v := (.int .i64 r)) rfl (by kernel_rfl) (by kernel_rfl) (by kernel_rfl) (fun _ _ _ h => h) (.inl ⟨rfl, fun V hS => ?y0⟩) HS0.out ?_
    case y0 =>
      obtain ⟨s0, s1, s2, s3, s4, s5⟩ := hS
      clear s5
      go_simp
    go_simp
    refine wpAnyH_take (i := 10) (v := (.pointer (some ⟨w.heap.size, 4, none⟩))) rfl (by kernel_rfl) (by kernel_rfl) (by kernel_rfl) (fun _ _ _ h => h) (.inl ⟨rfl, fun V hS => ?y0⟩) HS0.out ?_
    case y0 =>
      obtain ⟨s0, s1, s2, s3, s4, s5⟩ := hS
      clear s5
      go_simp
    go_simp
    refine wpAnyH_take (i := 11) (v := (.int .i64 c)) rfl (by kernel_rfl) (by kernel_rfl) (by kernel_rfl) (fun _ _ _ h => h) (.inl ⟨rfl, fun V hS => ?y0⟩) HS0.out ?_
    case y0 =>
      obtain ⟨s0, s1, s2, s3, s4, s5⟩ := hS
      clear s5
      go_simp
    go_simp
    refine wpAnyH_take (i := 12) (v := .agg (lkA ss f l r c)) rfl (by kernel_rfl) (by kernel_rfl) (by kernel_rfl) (fun _ _ _ h => h) (yields_build (by rfl) _ _ rfl _ ?yb) HS0.out ?_
    case yb =>
      have hb := built_links Hn.out f l r c
      go_simp
    go_simp
    have hsc : Sem.run Try.prog (storeCells ⟨w.heap.size + 1 + 1, 0, none⟩ (lkA ss f l r c).toList) (W0.alloc (.cells Try.zeroCells54 54)).drew = .ok () (W0.alloc (.cells (lkA ss f l r c) 54)).drew := by
      rw [← hs0]
      exact store_links W0.drew Try.zeroCells54 (lkA ss f l r c) (by rw [zero_links, lkA_size]) ss f l r c rfl
    refine wpAnyH_ready (rs := [13]) (by kernel_rfl) (by simp) (AllReadyH.cons rfl (fun K hK => ?_) AllReadyH.nil)
    go_simp
    refine hK.out _ _ (HS0.out.alloc _) (fun _ => ?_)
    refine wpAnyH_ready (rs := [14]) (by kernel_rfl) (by simp) (AllReadyH.cons rfl (fun K hK => ?_) AllReadyH.nil)
    have hsz := lkA_size ss f l r c
    go_simp
    refine hK.out _ _ (HS0.out.alloc _) (fun _ => ?_)
    refine wpAnyH_done (by kernel_rfl) ?_ _
    clear hsc HS0 hsz
    go_wp2_with fail
    obtain ⟨W1, hW1⟩ : ∃ W1, (W0.alloc (.cells (lkA ss f l r c) 54)).drew = W1 := ⟨_, rfl⟩
    rw [hW1]
    have HB1 : Hid (Below w.heap.size w W1) := by rw [← hW1]; exact (HB0.out.alloc (by omega) _).drew
    have HL1 : Hid (Lk W1 (w.heap.size + 1) zS 0 0 0 0) := by rw [← hW1]; exact (HL0.out.alloc _).drew
    have HM1 : Hid (Lk W1 (w.heap.size + 1 + 1) ss f l r c) := by rw [← hW1, ← hs0]; exact heap_alloc_new W0 (.cells (lkA ss f l r c) 54)
    clear hW1 hs0 HL0 HB0
    refine wp_region_held_drew (S := fun V => Lk V (w.heap.size + 1 + 1) ss f l r c) (by kernel_rfl) HM1.out (fun _ => ?_)
    refine wpAnyH_take (i := 0) (v := .agg (lkA ss f l r c)) rfl (by kernel_rfl) (by kernel_rfl) (by kernel_rfl) (fun _ _ _ h => h) (yields_links (by rfl) _ rfl rfl (fun V hS => hS)) HM1.out ?_
    go_simp
    refine wpAnyH_ready (rs := [1]) (by kernel_rfl) (by simp) (AllReadyH.cons rfl (fun K hK => ?_) AllReadyH.nil)
    go_simp
    refine (valid_any (w.heap.size + 1 + 1) f l r c ss W1.drew Hn.out HM1.out.drew).mono ?_
    rintro e w2 ⟨rfl, hb2⟩
    have HM2 := Lib.hid (HM1.out.drew.below hb2)
    have HL2 := Lib.hid (HL1.out.drew.below hb2)
    have HB2 : Hid (Below w.heap.size w w2) := bel_trans HB1.out (bel_of_drew hb2)
    clear hb2
    refine hK.out _ _ HM2.out (fun _ => ?_)
    refine wpAnyH_ready (rs := [2]) (by kernel_rfl) (by simp) (AllReadyH.cons rfl (fun K hK => ?_) AllReadyH.nil)
    rw [if_pos (by rfl)]
    refine wp_store_mid _ _ _ rfl (w.heap.size + 1) 0 (lkA ss f l r c) rfl rfl (HL2.out.there (lkA_size _ _ _ _ _)) (by rw [info_links, lkA_size]) (lkA_one _ _ _ _ _) ?_
    have HL3 := Lib.hid (lk_store (s' := ss) (f' := f) (l' := l) (r' := r) (c' := c) HL2.out)
    have HB3 : Hid (Below w.heap.size w (w2.setCells (w.heap.size + 1) 0 (lkA ss f l r c).toList)) := below_setCells (by omega) _ _ _ HB2.out
    have HM3 : Hid (Lk (w2.setCells (w.heap.size + 1) 0 (lkA ss f l r c).toList) (w.heap.size + 1 + 1) ss f l r c) := lk_of_row (rowIs_setCells_other (by omega) _ _ _ HM2.out.row)
    obtain ⟨W3, hW3⟩ : ∃ W3, w2.setCells (w.heap.size + 1) 0 (lkA ss f l r c).toList = W3 := ⟨_, rfl⟩
    rw [hW3] at HL3 HB3 HM3
    refine hK.out _ _ (by rw [hW3]; exact HM3.out) (fun _ => ?_)
    rw [hW3]
    clear hW3
    go_simp
    refine wpAnyH_ready (rs := [3]) (by kernel_rfl) (by simp) (AllReadyH.cons rfl (fun K hK => ?_) AllReadyH.nil)
    go_simp
    refine hK.out _ _ HM3.out (fun _ => ?_)
    refine wpAnyH_done (by kernel_rfl) ?_ _
    go_wp2_with fail
    have hld := load_links HL3.out
    refine bodyPost_ret (v := .tuple #[.agg (lkA ss f l r c), .bool (okQ ss f l r c)]) ?_ rfl ⟨_, _, _, _, _, rfl, fun _ => ⟨rfl, rfl, rfl, rfl, rfl⟩, HB3.out⟩
    simp [results, Try.results44, asAddr, hld]
  · have hne : ((n : Int) != 60) = true := by simp; omega
    have Ho := Lib.hid (okQ_len (ss := ss) (f := f) (l := l) (r := r) (c := c) (by rw [Hn.out]; exact h60))
    have Hno : Hid (ss.length ≠ 60) := by rw [Hn.out]; exact h60
    clear h60
    have hsc : Sem.run Try.prog (storeCells ⟨w.heap.size + 1, 0, none⟩ Try.zeroCells54.toList) ((w.alloc (.cells #[.slice A n cap, .int .i64 f, .int .i64 l, .int .i64 r, .int .i64 c] 26)).alloc (.cells Try.zeroCells54 54))
      = .ok () ((w.alloc (.cells #[.slice A n cap, .int .i64 f, .int .i64 l, .int .i64 r, .int .i64 c] 26)).alloc (.cells (lkA zS 0 0 0 0) 54)) := by
      have h := store_links (w.alloc (.cells #[.slice A n cap, .int .i64 f, .int .i64 l, .int .i64 r, .int .i64 c] 26)) Try.zeroCells54 Try.zeroCells54 (by rw [zero_links, lkA_size]) zS 0 0 0 0 zero_links'
      simpa using h
    go_enter Try.func44, Try.ntmps44
    go_wp2_with fail
    clear hsc
    have hL : Lk ((w.alloc (.cells #[.slice A n cap, .int .i64 f, .int .i64 l, .int .i64 r, .int .i64 c] 26)).alloc (.cells (lkA zS 0 0 0 0) 54)) (w.heap.size + 1) zS 0 0 0 0 := by
      have h := heap_alloc_new (w.alloc (.cells #[.slice A n cap, .int .i64 f, .int .i64 l, .int .i64 r, .int .i64 c] 26)) (.cells (lkA zS 0 0 0 0) 54)
      simp only [World.size_alloc] at h
      exact h
    have hld := load_links hL
    refine bodyPost_ret (v := .tuple #[.agg (lkA zS 0 0 0 0), .bool (okQ ss f l r c)]) ?_ rfl ⟨_, _, _, _, _, rfl, fun h => absurd h Hno.out, ((Below.refl _ _).alloc (Nat.le_refl _) _).alloc (by simp) _⟩
    rw [Ho.out]
    simp [results, Try.results44, asAddr, hld]
end Go.Proofs.Ytjbfmagedkmngaa.Que
