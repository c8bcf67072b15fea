/- What copied answers (the builtin copy into a row of structs), and sameLine; the reference's copy of a line. -/
import Derived.Test.YtpjelojmkmednaaLok
import Derived.Laws.CopyOwn
import Derived.Laws.MakeOwn
namespace Go.Proofs.Ytpjelojmkmednaa.Ln
open Go.RowKit Go.Deep Base

theorem run_copy_rows {P : Program} (w : World) (dT sT ty elem : TypeId) (g n size dCap : Nat) (a : Addr) (sCap : Nat) (cur : Array Value) (t : TypeId) (cs : List Value)
    (hu : P.underlying dT = some (.slice elem)) (hs : (P.info? elem).map (·.size) = some size)
    (hg : w.heap[g]? = some (.cells cur t (0, 0))) (hn : cs.length = n * size)
    (hsrc : ∀ j v, cs[j]? = some v → w.cell? (a.add j) = some v) (hfit : cs.length = cur.size) (h1 : ∀ v ∈ cs, v.oneCell' = true) :
    (Builtin.copy_ #[dT, sT] ty #[.slice (some ⟨g, 0, none⟩) n dCap, .slice (some a) n sCap]).run P w = .ok (goInt n) (w.setRow g cs.toArray) := by
  have hl := run_loadCells_list (P := P) w a cs hsrc
  have hst := run_storeCells_at P g 0 t cs 0 cur w hg (by omega) h1
  rw [hn] at hl
  have e : (List.take (0 + 0) cur.toList ++ cs ++ List.drop (0 + 0 + cs.length) cur.toList).toArray = cs.toArray := by
    rw [List.drop_eq_nil_of_le (by simp; omega)]
    simp
  rw [e] at hst
  cases hq : P.info? elem with
  | none => simp [hq] at hs
  | some i =>
    have hi : i.size = size := by simpa [hq] using hs
    simp [Builtin.copy_, run_underlying hu, Builtin.lenOf, Builtin.firstCells, sizeOf, typeInfo, hq, hi, hl, hst]

theorem slot_rd {w : World} {g : Nat} {t : TypeId} {ss : List Que.Sl} (h : w.heap[g]? = some (.cells (Que.cellsL ss).toArray t (0, 0))) : Que.Rd w g ss := by
  intro i hi
  have hc : ∀ o, w.cell? ⟨g, o, none⟩ = (Que.cellsL ss).toArray[o]? := fun o => cell_of_row _ _ o _ _ (0, 0) h
  have h0 := Que.cellsL_at ss i 0 hi (by omega)
  have h1 := Que.cellsL_at ss i 1 hi (by omega)
  have h2 := Que.cellsL_at ss i 2 hi (by omega)
  have h3 := Que.cellsL_at ss i 3 hi (by omega)
  refine ⟨?_, ?_, ?_, ?_, fun j => by simp [World.frozen?, h]⟩ <;> rw [hc, List.getElem?_toArray]
  · exact h0
  · exact h1
  · exact h2
  · exact h3
theorem due_rd {w : World} {g : Nat} {t : TypeId} {ds : List Hp.Du} (h : w.heap[g]? = some (.cells (Hp.cellsL ds).toArray t (0, 0))) : Hp.Rd w g ds := by
  intro i hi
  have hc : ∀ o, w.cell? ⟨g, o, none⟩ = (Hp.cellsL ds).toArray[o]? := fun o => cell_of_row _ _ o _ _ (0, 0) h
  have h0 := Hp.cellsL_at ds i 0 hi (by omega)
  have h1 := Hp.cellsL_at ds i 1 hi (by omega)
  have h2 := Hp.cellsL_at ds i 2 hi (by omega)
  refine ⟨?_, ?_, ?_, fun j => by simp [World.frozen?, h]⟩ <;> rw [hc, List.getElem?_toArray]
  · exact h0
  · exact h1
  · exact h2

theorem row_below {w0 w : World} {B g : Nat} (hb : Below B w0 w) (hBg : B ≤ g) (cs : Array Value) : Below B w0 (w.setRow g cs) := below_setRow hb hBg cs

set_option maxRecDepth 100000 in
set_option maxHeartbeats 1000000 in
theorem copiedSlot_any (A : Option Addr) (cap a b : Nat) (ss : List Que.Sl) (w : World) (hn : ss.length ≤ 1048576) (h : Que.SlV w a b A ss) (hb : b ≤ w.heap.size) :
    Calls Try.prog 78 #[.slice A ss.length cap] w (Que.NewS w ss.length ss) := by
  have hnil := fun W => Lib.run_eql_slice_nil (P := Try.prog) W 24 91 A ss.length cap 0 0 Try.underlying24
  cases A with
  | none =>
    have h0 : ss.length = 0 := by
      rcases Nat.eq_zero_or_pos ss.length with h0 | hp
      · exact h0
      · obtain ⟨g, e, _⟩ := h hp
        cases e
    have Hz : Hid (ss = []) := List.eq_nil_of_length_eq_zero h0
    clear h hn
    have H0 := Lib.hid h0
    clear h0
    go_enter Try.func78, Try.ntmps78
    go_wp2
    go_ret
    exact ⟨none, 0, by rw [H0.out]; rfl, by intro hp; rw [H0.out] at hp; omega, Below.refl _ _⟩
  | some ad =>
    obtain ⟨W1, hW1⟩ : ∃ W1, w.alloc (.cells (madeCells #[.int .i64 0, .int .i64 0, .int .i64 0, .bool false] (ss.length * 4)) 91) = W1 := ⟨_, rfl⟩
    obtain ⟨W2, hW2⟩ : ∃ W2, W1.setRow w.heap.size (Que.cellsL ss).toArray = W2 := ⟨_, rfl⟩
    obtain ⟨i0, hi0, hz0, hz1, hz2⟩ := info_parts Que.infoSlot
    have hmk : (Instr.makeSlice 24 (.int .i64 (ss.length : Int)) (.int .i64 (ss.length : Int))).run Try.prog w = .ok (.slice (some ⟨w.heap.size, 0, none⟩) ss.length ss.length) W1 := by
      have hr := run_makeSlice (P := Try.prog) w 24 91 i0 _ Try.underlying24 hi0 hz0 .i64 .i64 (ss.length : Int) (ss.length : Int) (by omega) (by omega) (by rw [hz1]; omega) (by rw [hz2]; omega) (by omega)
      rw [hz1] at hr
      rw [← hW1]
      simp only [Int.toNat_natCast] at hr
      exact hr
    have hz : W1.heap[w.heap.size]? = some (.cells (madeCells #[.int .i64 0, .int .i64 0, .int .i64 0, .bool false] (ss.length * 4)) 91 (0, 0)) := by rw [← hW1]; exact heap_alloc_new w _
    have hB1 : Below w.heap.size w W1 := by rw [← hW1]; exact bel_alloc w _
    have hcp : (Builtin.copy_ #[24, 24] 3 #[.slice (some ⟨w.heap.size, 0, none⟩) ss.length ss.length, .slice (some ad) ss.length cap]).run Try.prog W1 = .ok (goInt ss.length) W2 := by
      rw [← hW2]
      refine run_copy_rows W1 24 24 3 91 w.heap.size ss.length 4 ss.length ad cap _ 91 (Que.cellsL ss) Try.underlying24 (by rw [hi0]; simpa using hz1) hz (Que.cellsL_len ss) (fun j v hj => ?_) (by rw [Que.cellsL_len]; simp [madeCells]) (Que.cells_one ss)
      have hlt := (List.getElem?_eq_some_iff.1 hj).1
      rw [Que.cellsL_len] at hlt
      obtain ⟨g, e, h1, h2, h3⟩ := (h.below hB1 hb) (by omega)
      cases e
      exact Que.news_rd h3 j v hj
    have hgt : goInt ss.length = .int .i64 (ss.length : Int) := rfl
    rw [hgt] at hcp
    have Hrow : Hid (W2.heap[w.heap.size]? = some (.cells (Que.cellsL ss).toArray 91 (0, 0))) := by
      show W2.heap[w.heap.size]? = _
      rw [← hW2]
      exact setRow_heap W1 w.heap.size _ _ _ _ hz
    have HB2 : Hid (Below w.heap.size w W2) := by show Below _ _ _; rw [← hW2]; exact below_setRow hB1 (Nat.le_refl _) _
    clear hW1 hW2 hz hB1 hi0 hz0 hz1 hz2 hgt h
    go_enter Try.func78, Try.ntmps78
    go_wp2
    go_ret
    exact ⟨some ⟨w.heap.size, 0, none⟩, ss.length, rfl, fun _ => ⟨_, rfl, Nat.le_refl _, (Array.getElem?_eq_some_iff.1 Hrow.out).1, slot_rd Hrow.out⟩, HB2.out⟩

set_option maxRecDepth 100000 in
set_option maxHeartbeats 1000000 in
theorem copiedDue_any (A : Option Addr) (cap a b : Nat) (ss : List Hp.Du) (w : World) (hn : ss.length ≤ 1048576) (h : Hp.DV w a b A ss) (hb : b ≤ w.heap.size) :
    Calls Try.prog 79 #[.slice A ss.length cap] w (Hp.NewD w ss.length ss) := by
  have hnil := fun W => Lib.run_eql_slice_nil (P := Try.prog) W 27 80 A ss.length cap 0 0 Try.underlying27
  cases A with
  | none =>
    have h0 : ss.length = 0 := by
      rcases Nat.eq_zero_or_pos ss.length with h0 | hp
      · exact h0
      · obtain ⟨g, e, _⟩ := h hp
        cases e
    have Hz : Hid (ss = []) := List.eq_nil_of_length_eq_zero h0
    clear h hn
    have H0 := Lib.hid h0
    clear h0
    go_enter Try.func79, Try.ntmps79
    go_wp2
    go_ret
    exact ⟨none, 0, by rw [H0.out]; rfl, by intro hp; rw [H0.out] at hp; omega, Below.refl _ _⟩
  | some ad =>
    obtain ⟨W1, hW1⟩ : ∃ W1, w.alloc (.cells (madeCells #[.int .i64 0, .int .i64 0, .int .i64 0] (ss.length * 3)) 80) = W1 := ⟨_, rfl⟩
    obtain ⟨W2, hW2⟩ : ∃ W2, W1.setRow w.heap.size (Hp.cellsL ss).toArray = W2 := ⟨_, rfl⟩
    obtain ⟨i0, hi0, hz0, hz1, hz2⟩ := info_parts Hp.infoDue
    have hmk : (Instr.makeSlice 27 (.int .i64 (ss.length : Int)) (.int .i64 (ss.length : Int))).run Try.prog w = .ok (.slice (some ⟨w.heap.size, 0, none⟩) ss.length ss.length) W1 := by
      have hr := run_makeSlice (P := Try.prog) w 27 80 i0 _ Try.underlying27 hi0 hz0 .i64 .i64 (ss.length : Int) (ss.length : Int) (by omega) (by omega) (by rw [hz1]; omega) (by rw [hz2]; omega) (by omega)
      rw [hz1] at hr
      rw [← hW1]
      simp only [Int.toNat_natCast] at hr
      exact hr
    have hz : W1.heap[w.heap.size]? = some (.cells (madeCells #[.int .i64 0, .int .i64 0, .int .i64 0] (ss.length * 3)) 80 (0, 0)) := by rw [← hW1]; exact heap_alloc_new w _
    have hB1 : Below w.heap.size w W1 := by rw [← hW1]; exact bel_alloc w _
    have hcp : (Builtin.copy_ #[27, 27] 3 #[.slice (some ⟨w.heap.size, 0, none⟩) ss.length ss.length, .slice (some ad) ss.length cap]).run Try.prog W1 = .ok (goInt ss.length) W2 := by
      rw [← hW2]
      refine run_copy_rows W1 27 27 3 80 w.heap.size ss.length 3 ss.length ad cap _ 80 (Hp.cellsL ss) Try.underlying27 (by rw [hi0]; simpa using hz1) hz (Hp.cellsL_len ss) (fun j v hj => ?_) (by rw [Hp.cellsL_len]; simp [madeCells]) (Hp.cells_one ss)
      have hlt := (List.getElem?_eq_some_iff.1 hj).1
      rw [Hp.cellsL_len] at hlt
      obtain ⟨g, e, h1, h2, h3⟩ := (h.below hB1 hb) (by omega)
      cases e
      exact Hp.news_rd h3 j v hj
    have hgt : goInt ss.length = .int .i64 (ss.length : Int) := rfl
    rw [hgt] at hcp
    have Hrow : Hid (W2.heap[w.heap.size]? = some (.cells (Hp.cellsL ss).toArray 80 (0, 0))) := by
      show W2.heap[w.heap.size]? = _
      rw [← hW2]
      exact setRow_heap W1 w.heap.size _ _ _ _ hz
    have HB2 : Hid (Below w.heap.size w W2) := by show Below _ _ _; rw [← hW2]; exact below_setRow hB1 (Nat.le_refl _) _
    clear hW1 hW2 hz hB1 hi0 hz0 hz1 hz2 hgt h
    go_enter Try.func79, Try.ntmps79
    go_wp2
    go_ret
    exact ⟨some ⟨w.heap.size, 0, none⟩, ss.length, rfl, fun _ => ⟨_, rfl, Nat.le_refl _, (Array.getElem?_eq_some_iff.1 Hrow.out).1, due_rd Hrow.out⟩, HB2.out⟩


set_option maxRecDepth 100000 in
set_option maxHeartbeats 2000000 in
theorem sameLine_any (A : Option Addr) (ca : Nat) (x : Lx) (B : Option Addr) (cb : Nat) (R : Rg) (w : World) (hn : x.s.ss.length ≤ 1048576) (hm : x.ds.length ≤ 1048576) (h : LnV w R A B x) (hR : R.In 0 w.heap.size) :
    Calls Try.prog 41 #[.agg #[.slice A x.s.ss.length ca, .int .i64 x.s.f, .int .i64 x.s.l, .int .i64 x.s.r, .int .i64 x.s.c, .slice B x.ds.length cb, .int .i64 x.q]] w (NewL w x) := by
  have H := Lib.hid h
  have HR := Lib.hid hR
  clear h hR
  go_enter Try.func41, Try.ntmps41
  go_wp2_with fail
  obtain ⟨v0, hv0⟩ : ∃ v0, ((w.alloc (.cells #[.slice A x.s.ss.length ca, .int .i64 x.s.f, .int .i64 x.s.l, .int .i64 x.s.r, .int .i64 x.s.c, .slice B x.ds.length cb, .int .i64 x.q] 31)).alloc (.cells #[.slice none 0 0, .int .i64 0, .int .i64 0, .int .i64 0, .int .i64 0, .slice none 0 0, .int .i64 0] 31)) = v0 := ⟨_, rfl⟩
  have K : Hid (Bx v0.drew w.heap.size 31 #[.slice A x.s.ss.length ca, .int .i64 x.s.f, .int .i64 x.s.l, .int .i64 x.s.r, .int .i64 x.s.c, .slice B x.ds.length cb, .int .i64 x.q]) := by rw [← hv0]; exact (Bx.new w _ _).alloc _
  have Q : Hid (Bx v0.drew (w.heap.size + 1) 31 #[.slice none 0 0, .int .i64 0, .int .i64 0, .int .i64 0, .int .i64 0, .slice none 0 0, .int .i64 0]) := by rw [← hv0]; exact Bx.at_new (w.alloc _) _ (by simp) _ _
  have HS : Hid (Below w.heap.size w v0.drew) := by rw [← hv0]; exact (((Below.refl _ _).alloc (Nat.le_refl _) _).alloc (by simp) _).drew
  rw [hv0]
  refine wp_region_held_drew (S := fun V => Below w.heap.size w V) (by kernel_rfl) HS.out (fun _ => ?_)
  clear hv0
  obtain ⟨v, hv⟩ : ∃ v, v0.drew = v := ⟨_, rfl⟩
  rw [hv] at K Q HS ⊢
  clear hv
  have zv : w.heap.size < v.heap.size := K.out.lt
  have zv' : w.heap.size + 1 + 1 ≤ v.heap.size := Q.out.lt
  refine wpAnyH_take (i := 0) (v := (.pointer (some ⟨w.heap.size, 0, none⟩))) rfl (by kernel_rfl) (by kernel_rfl) (by kernel_rfl) (fun _ _ _ h => h) (.inl ⟨rfl, fun V hS => ?y0⟩) HS.out ?_
  case y0 => go_simp
  go_simp
  refine wpAnyH_take (i := 1) (v := (.pointer (some ⟨w.heap.size, 0, none⟩))) rfl (by kernel_rfl) (by kernel_rfl) (by kernel_rfl) (fun _ _ _ h => h) (.inl ⟨rfl, fun V hS => ?y0⟩) HS.out ?_
  case y0 => go_simp
  go_simp
  refine wpAnyH_take (i := 4) (v := (.pointer (some ⟨w.heap.size, 5, none⟩))) rfl (by kernel_rfl) (by kernel_rfl) (by kernel_rfl) (fun _ _ _ h => h) (.inl ⟨rfl, fun V hS => ?y0⟩) HS.out ?_
  case y0 => go_simp
  go_simp
  refine wpAnyH_take (i := 5) (v := (.pointer (some ⟨w.heap.size, 5, none⟩))) rfl (by kernel_rfl) (by kernel_rfl) (by kernel_rfl) (fun _ _ _ h => h) (.inl ⟨rfl, fun V hS => ?y0⟩) HS.out ?_
  case y0 => go_simp
  go_simp
  refine wpAnyH_ready (rs := [2, 6]) (by kernel_rfl) (by simp) (AllReadyH.cons rfl (fun J hJ => ?_) (AllReadyH.cons rfl (fun J hJ => ?_) AllReadyH.nil))
  · skip
    obtain ⟨k0, k1, k2, k3, k4, k5, k6, kf⟩ := K.out.cells7
    go_simp
    clear k0 k1 k2 k3 k4 k5 k6 kf
    refine hJ.out _ _ HS.out (fun _ => ?_)
    clear hJ J
    go_simp
    refine wpAnyH_ready (rs := [3, 6]) (by kernel_rfl) (by simp) (AllReadyH.cons rfl (fun J hJ => ?_) (AllReadyH.cons rfl (fun J hJ => ?_) AllReadyH.nil))
    · skip
      go_simp
      refine (copiedSlot_any A ca R.a R.b x.s.ss v hn (H.out.s.below HS.out HR.out.b) (Nat.le_trans HR.out.b HS.out.size)).mono ?_
      rintro e v1 ⟨A1, c1, rfl, y1, b1⟩
      replace K := Lib.hid (K.out.below b1)
      replace Q := Lib.hid (Q.out.below b1)
      replace HS := Lib.hid (HS.out.trans (b1.mono HS.out.size))
      have Y := Lib.hid y1
      have z1 := b1.size
      clear b1 y1
      refine hJ.out _ _ HS.out (fun _ => ?_)
      clear hJ J
      go_simp
      refine wpAnyH_ready (rs := [6]) (by kernel_rfl) (by simp) (AllReadyH.cons rfl (fun J hJ => ?_) AllReadyH.nil)
      obtain ⟨k0, k1, k2, k3, k4, k5, k6, kf⟩ := K.out.cells7
      go_simp
      clear k0 k1 k2 k3 k4 k5 k6 kf
      refine hJ.out _ _ HS.out (fun _ => ?_)
      clear hJ J
      go_simp
      refine wpAnyH_take (i := 8) (v := (.pointer (some ⟨w.heap.size, 0, none⟩))) rfl (by kernel_rfl) (by kernel_rfl) (by kernel_rfl) (fun _ _ _ h => h) (.inl ⟨rfl, fun V hS => ?y0⟩) HS.out ?_
      case y0 => go_simp
      go_simp
      refine wpAnyH_take (i := 9) (v := (.pointer (some ⟨w.heap.size, 0, none⟩))) rfl (by kernel_rfl) (by kernel_rfl) (by kernel_rfl) (fun _ _ _ h => h) (.inl ⟨rfl, fun V hS => ?y0⟩) HS.out ?_
      case y0 => go_simp
      go_simp
      refine wpAnyH_ready (rs := [7]) (by kernel_rfl) (by simp) (AllReadyH.cons rfl (fun J hJ => ?_) AllReadyH.nil)
      go_simp
      refine (copiedDue_any B cb R.c R.d x.ds v1 hm (H.out.h.below HS.out HR.out.d) (Nat.le_trans HR.out.d HS.out.size)).mono ?_
      rintro e v2 ⟨B1, d1, rfl, y2, b2⟩
      replace K := Lib.hid (K.out.below b2)
      replace Q := Lib.hid (Q.out.below b2)
      replace Y := Lib.hid (Y.out.below b2 (Nat.le_refl _))
      replace HS := Lib.hid (HS.out.trans (b2.mono HS.out.size))
      have D := Lib.hid y2
      have z2 := b2.size
      clear b2 y2
      refine hJ.out _ _ HS.out (fun _ => ?_)
      clear hJ J
      go_simp
      refine wpAnyH_ready (rs := [10]) (by kernel_rfl) (by simp) (AllReadyH.cons rfl (fun J hJ => ?_) AllReadyH.nil)
      obtain ⟨k0, k1, k2, k3, k4, k5, k6, kf⟩ := K.out.cells7
      go_simp
      clear k0 k1 k2 k3 k4 k5 k6 kf
      obtain ⟨v3, hv3⟩ : ∃ v3, v2.setCell ⟨w.heap.size, 0, none⟩ (.slice A1 x.s.ss.length c1) = v3 := ⟨_, rfl⟩
      replace K : Hid (Bx v3 w.heap.size 31 #[.slice A1 x.s.ss.length c1, .int .i64 x.s.f, .int .i64 x.s.l, .int .i64 x.s.r, .int .i64 x.s.c, .slice B x.ds.length cb, .int .i64 x.q]) := by rw [← hv3]; exact K.out.set 0 _
      replace Q : Hid (Bx v3 (w.heap.size + 1) 31 #[.slice none 0 0, .int .i64 0, .int .i64 0, .int .i64 0, .int .i64 0, .slice none 0 0, .int .i64 0]) := by rw [← hv3]; exact Q.out.other (by simp) _
      replace Y : Hid (Que.SlV v3 (v).heap.size (v1).heap.size A1 x.s.ss) := by rw [← hv3]; exact Y.out.setCell (by exact zv) _
      replace D : Hid (Hp.DV v3 (v1).heap.size v2.heap.size B1 x.ds) := by rw [← hv3]; exact D.out.setCell (by show w.heap.size < (v1).heap.size; omega) _
      replace HS : Hid (Below w.heap.size w v3) := by rw [← hv3]; exact HS.out.setCell (Nat.le_refl _) _
      have z3 : v3.heap.size = v2.heap.size := by rw [← hv3]; simp [World.setCell]
      rw [hv3]
      clear hv3
      refine hJ.out _ _ HS.out (fun _ => ?_)
      clear hJ J
      go_simp
      refine wpAnyH_take (i := 11) (v := (.pointer (some ⟨w.heap.size, 5, none⟩))) rfl (by kernel_rfl) (by kernel_rfl) (by kernel_rfl) (fun _ _ _ h => h) (.inl ⟨rfl, fun V hS => ?y0⟩) HS.out ?_
      case y0 => go_simp
      go_simp
      refine wpAnyH_take (i := 12) (v := (.pointer (some ⟨w.heap.size, 5, none⟩))) rfl (by kernel_rfl) (by kernel_rfl) (by kernel_rfl) (fun _ _ _ h => h) (.inl ⟨rfl, fun V hS => ?y0⟩) HS.out ?_
      case y0 => go_simp
      go_simp
      refine wpAnyH_ready (rs := [13]) (by kernel_rfl) (by simp) (AllReadyH.cons rfl (fun J hJ => ?_) AllReadyH.nil)
      obtain ⟨k0, k1, k2, k3, k4, k5, k6, kf⟩ := K.out.cells7
      go_simp
      clear k0 k1 k2 k3 k4 k5 k6 kf
      obtain ⟨v4, hv4⟩ : ∃ v4, v3.setCell ⟨w.heap.size, 5, none⟩ (.slice B1 x.ds.length d1) = v4 := ⟨_, rfl⟩
      replace K : Hid (Bx v4 w.heap.size 31 #[.slice A1 x.s.ss.length c1, .int .i64 x.s.f, .int .i64 x.s.l, .int .i64 x.s.r, .int .i64 x.s.c, .slice B1 x.ds.length d1, .int .i64 x.q]) := by rw [← hv4]; exact K.out.set 5 _
      replace Q : Hid (Bx v4 (w.heap.size + 1) 31 #[.slice none 0 0, .int .i64 0, .int .i64 0, .int .i64 0, .int .i64 0, .slice none 0 0, .int .i64 0]) := by rw [← hv4]; exact Q.out.other (by simp) _
      replace Y : Hid (Que.SlV v4 (v).heap.size (v1).heap.size A1 x.s.ss) := by rw [← hv4]; exact Y.out.setCell (by exact zv) _
      replace D : Hid (Hp.DV v4 (v1).heap.size v2.heap.size B1 x.ds) := by rw [← hv4]; exact D.out.setCell (by show w.heap.size < (v1).heap.size; omega) _
      replace HS : Hid (Below w.heap.size w v4) := by rw [← hv4]; exact HS.out.setCell (Nat.le_refl _) _
      have z4 : v4.heap.size = v3.heap.size := by rw [← hv4]; simp [World.setCell]
      rw [hv4]
      clear hv4
      refine hJ.out _ _ HS.out (fun _ => ?_)
      clear hJ J
      refine wpAnyH_done (by kernel_rfl) ?_ _
      obtain ⟨k0, k1, k2, k3, k4, k5, k6, kf⟩ := K.out.cells7
      obtain ⟨q0, q1, q2, q3, q4, q5, q6, qf⟩ := Q.out.cells7
      go_wp2_with fail
      refine bodyPost_ret (v := .agg #[.slice A1 x.s.ss.length c1, .int .i64 x.s.f, .int .i64 x.s.l, .int .i64 x.s.r, .int .i64 x.s.c, .slice B1 x.ds.length d1, .int .i64 x.q]) (by simp [results, Try.results41, go_sem, q0, q1, q2, q3, q4, q5, q6]) rfl ⟨⟨(v).heap.size, (v1).heap.size, (v1).heap.size, v2.heap.size⟩, A1, c1, B1, d1, rfl, ?_⟩
      exact new_sto (g := w.heap.size + 1) (o := 0) (r := [.slice A1 x.s.ss.length c1, .int .i64 x.s.f, .int .i64 x.s.l, .int .i64 x.s.r, .int .i64 x.s.c, .slice B1 x.ds.length d1, .int .i64 x.q]) (v := v4) (n := v2.heap.size)
        ⟨.inl (Nat.le_refl _), Y.out, D.out⟩
        ⟨zv', z2, Nat.le_trans zv' z1, Nat.le_refl _⟩ (by omega) HS.out (by omega)
    · skip
      obtain ⟨k0, k1, k2, k3, k4, k5, k6, kf⟩ := K.out.cells7
      go_simp
      clear k0 k1 k2 k3 k4 k5 k6 kf
      refine hJ.out _ _ HS.out (fun _ => ?_)
      clear hJ J
      go_simp
      refine wpAnyH_ready (rs := [3]) (by kernel_rfl) (by simp) (AllReadyH.cons rfl (fun J hJ => ?_) AllReadyH.nil)
      go_simp
      refine (copiedSlot_any A ca R.a R.b x.s.ss v hn (H.out.s.below HS.out HR.out.b) (Nat.le_trans HR.out.b HS.out.size)).mono ?_
      rintro e v1 ⟨A1, c1, rfl, y1, b1⟩
      replace K := Lib.hid (K.out.below b1)
      replace Q := Lib.hid (Q.out.below b1)
      replace HS := Lib.hid (HS.out.trans (b1.mono HS.out.size))
      have Y := Lib.hid y1
      have z1 := b1.size
      clear b1 y1
      refine hJ.out _ _ HS.out (fun _ => ?_)
      clear hJ J
      go_simp
      refine wpAnyH_take (i := 8) (v := (.pointer (some ⟨w.heap.size, 0, none⟩))) rfl (by kernel_rfl) (by kernel_rfl) (by kernel_rfl) (fun _ _ _ h => h) (.inl ⟨rfl, fun V hS => ?y0⟩) HS.out ?_
      case y0 => go_simp
      go_simp
      refine wpAnyH_take (i := 9) (v := (.pointer (some ⟨w.heap.size, 0, none⟩))) rfl (by kernel_rfl) (by kernel_rfl) (by kernel_rfl) (fun _ _ _ h => h) (.inl ⟨rfl, fun V hS => ?y0⟩) HS.out ?_
      case y0 => go_simp
      go_simp
      refine wpAnyH_ready (rs := [7]) (by kernel_rfl) (by simp) (AllReadyH.cons rfl (fun J hJ => ?_) AllReadyH.nil)
      go_simp
      refine (copiedDue_any B cb R.c R.d x.ds v1 hm (H.out.h.below HS.out HR.out.d) (Nat.le_trans HR.out.d HS.out.size)).mono ?_
      rintro e v2 ⟨B1, d1, rfl, y2, b2⟩
      replace K := Lib.hid (K.out.below b2)
      replace Q := Lib.hid (Q.out.below b2)
      replace Y := Lib.hid (Y.out.below b2 (Nat.le_refl _))
      replace HS := Lib.hid (HS.out.trans (b2.mono HS.out.size))
      have D := Lib.hid y2
      have z2 := b2.size
      clear b2 y2
      refine hJ.out _ _ HS.out (fun _ => ?_)
      clear hJ J
      go_simp
      refine wpAnyH_ready (rs := [10]) (by kernel_rfl) (by simp) (AllReadyH.cons rfl (fun J hJ => ?_) AllReadyH.nil)
      obtain ⟨k0, k1, k2, k3, k4, k5, k6, kf⟩ := K.out.cells7
      go_simp
      clear k0 k1 k2 k3 k4 k5 k6 kf
      obtain ⟨v3, hv3⟩ : ∃ v3, v2.setCell ⟨w.heap.size, 0, none⟩ (.slice A1 x.s.ss.length c1) = v3 := ⟨_, rfl⟩
      replace K : Hid (Bx v3 w.heap.size 31 #[.slice A1 x.s.ss.length c1, .int .i64 x.s.f, .int .i64 x.s.l, .int .i64 x.s.r, .int .i64 x.s.c, .slice B x.ds.length cb, .int .i64 x.q]) := by rw [← hv3]; exact K.out.set 0 _
      replace Q : Hid (Bx v3 (w.heap.size + 1) 31 #[.slice none 0 0, .int .i64 0, .int .i64 0, .int .i64 0, .int .i64 0, .slice none 0 0, .int .i64 0]) := by rw [← hv3]; exact Q.out.other (by simp) _
      replace Y : Hid (Que.SlV v3 (v).heap.size (v1).heap.size A1 x.s.ss) := by rw [← hv3]; exact Y.out.setCell (by exact zv) _
      replace D : Hid (Hp.DV v3 (v1).heap.size v2.heap.size B1 x.ds) := by rw [← hv3]; exact D.out.setCell (by show w.heap.size < (v1).heap.size; omega) _
      replace HS : Hid (Below w.heap.size w v3) := by rw [← hv3]; exact HS.out.setCell (Nat.le_refl _) _
      have z3 : v3.heap.size = v2.heap.size := by rw [← hv3]; simp [World.setCell]
      rw [hv3]
      clear hv3
      refine hJ.out _ _ HS.out (fun _ => ?_)
      clear hJ J
      go_simp
      refine wpAnyH_take (i := 11) (v := (.pointer (some ⟨w.heap.size, 5, none⟩))) rfl (by kernel_rfl) (by kernel_rfl) (by kernel_rfl) (fun _ _ _ h => h) (.inl ⟨rfl, fun V hS => ?y0⟩) HS.out ?_
      case y0 => go_simp
      go_simp
      refine wpAnyH_take (i := 12) (v := (.pointer (some ⟨w.heap.size, 5, none⟩))) rfl (by kernel_rfl) (by kernel_rfl) (by kernel_rfl) (fun _ _ _ h => h) (.inl ⟨rfl, fun V hS => ?y0⟩) HS.out ?_
      case y0 => go_simp
      go_simp
      refine wpAnyH_ready (rs := [13]) (by kernel_rfl) (by simp) (AllReadyH.cons rfl (fun J hJ => ?_) AllReadyH.nil)
      obtain ⟨k0, k1, k2, k3, k4, k5, k6, kf⟩ := K.out.cells7
      go_simp
      clear k0 k1 k2 k3 k4 k5 k6 kf
      obtain ⟨v4, hv4⟩ : ∃ v4, v3.setCell ⟨w.heap.size, 5, none⟩ (.slice B1 x.ds.length d1) = v4 := ⟨_, rfl⟩
      replace K : Hid (Bx v4 w.heap.size 31 #[.slice A1 x.s.ss.length c1, .int .i64 x.s.f, .int .i64 x.s.l, .int .i64 x.s.r, .int .i64 x.s.c, .slice B1 x.ds.length d1, .int .i64 x.q]) := by rw [← hv4]; exact K.out.set 5 _
      replace Q : Hid (Bx v4 (w.heap.size + 1) 31 #[.slice none 0 0, .int .i64 0, .int .i64 0, .int .i64 0, .int .i64 0, .slice none 0 0, .int .i64 0]) := by rw [← hv4]; exact Q.out.other (by simp) _
      replace Y : Hid (Que.SlV v4 (v).heap.size (v1).heap.size A1 x.s.ss) := by rw [← hv4]; exact Y.out.setCell (by exact zv) _
      replace D : Hid (Hp.DV v4 (v1).heap.size v2.heap.size B1 x.ds) := by rw [← hv4]; exact D.out.setCell (by show w.heap.size < (v1).heap.size; omega) _
      replace HS : Hid (Below w.heap.size w v4) := by rw [← hv4]; exact HS.out.setCell (Nat.le_refl _) _
      have z4 : v4.heap.size = v3.heap.size := by rw [← hv4]; simp [World.setCell]
      rw [hv4]
      clear hv4
      refine hJ.out _ _ HS.out (fun _ => ?_)
      clear hJ J
      refine wpAnyH_done (by kernel_rfl) ?_ _
      obtain ⟨k0, k1, k2, k3, k4, k5, k6, kf⟩ := K.out.cells7
      obtain ⟨q0, q1, q2, q3, q4, q5, q6, qf⟩ := Q.out.cells7
      go_wp2_with fail
      refine bodyPost_ret (v := .agg #[.slice A1 x.s.ss.length c1, .int .i64 x.s.f, .int .i64 x.s.l, .int .i64 x.s.r, .int .i64 x.s.c, .slice B1 x.ds.length d1, .int .i64 x.q]) (by simp [results, Try.results41, go_sem, q0, q1, q2, q3, q4, q5, q6]) rfl ⟨⟨(v).heap.size, (v1).heap.size, (v1).heap.size, v2.heap.size⟩, A1, c1, B1, d1, rfl, ?_⟩
      exact new_sto (g := w.heap.size + 1) (o := 0) (r := [.slice A1 x.s.ss.length c1, .int .i64 x.s.f, .int .i64 x.s.l, .int .i64 x.s.r, .int .i64 x.s.c, .slice B1 x.ds.length d1, .int .i64 x.q]) (v := v4) (n := v2.heap.size)
        ⟨.inl (Nat.le_refl _), Y.out, D.out⟩
        ⟨zv', z2, Nat.le_trans zv' z1, Nat.le_refl _⟩ (by omega) HS.out (by omega)
  · skip
    obtain ⟨k0, k1, k2, k3, k4, k5, k6, kf⟩ := K.out.cells7
    go_simp
    clear k0 k1 k2 k3 k4 k5 k6 kf
    refine hJ.out _ _ HS.out (fun _ => ?_)
    clear hJ J
    go_simp
    refine wpAnyH_ready (rs := [2]) (by kernel_rfl) (by simp) (AllReadyH.cons rfl (fun J hJ => ?_) AllReadyH.nil)
    obtain ⟨k0, k1, k2, k3, k4, k5, k6, kf⟩ := K.out.cells7
    go_simp
    clear k0 k1 k2 k3 k4 k5 k6 kf
    refine hJ.out _ _ HS.out (fun _ => ?_)
    clear hJ J
    go_simp
    refine wpAnyH_ready (rs := [3]) (by kernel_rfl) (by simp) (AllReadyH.cons rfl (fun J hJ => ?_) AllReadyH.nil)
    go_simp
    refine (copiedSlot_any A ca R.a R.b x.s.ss v hn (H.out.s.below HS.out HR.out.b) (Nat.le_trans HR.out.b HS.out.size)).mono ?_
    rintro e v1 ⟨A1, c1, rfl, y1, b1⟩
    replace K := Lib.hid (K.out.below b1)
    replace Q := Lib.hid (Q.out.below b1)
    replace HS := Lib.hid (HS.out.trans (b1.mono HS.out.size))
    have Y := Lib.hid y1
    have z1 := b1.size
    clear b1 y1
    refine hJ.out _ _ HS.out (fun _ => ?_)
    clear hJ J
    go_simp
    refine wpAnyH_take (i := 8) (v := (.pointer (some ⟨w.heap.size, 0, none⟩))) rfl (by kernel_rfl) (by kernel_rfl) (by kernel_rfl) (fun _ _ _ h => h) (.inl ⟨rfl, fun V hS => ?y0⟩) HS.out ?_
    case y0 => go_simp
    go_simp
    refine wpAnyH_take (i := 9) (v := (.pointer (some ⟨w.heap.size, 0, none⟩))) rfl (by kernel_rfl) (by kernel_rfl) (by kernel_rfl) (fun _ _ _ h => h) (.inl ⟨rfl, fun V hS => ?y0⟩) HS.out ?_
    case y0 => go_simp
    go_simp
    refine wpAnyH_ready (rs := [7]) (by kernel_rfl) (by simp) (AllReadyH.cons rfl (fun J hJ => ?_) AllReadyH.nil)
    go_simp
    refine (copiedDue_any B cb R.c R.d x.ds v1 hm (H.out.h.below HS.out HR.out.d) (Nat.le_trans HR.out.d HS.out.size)).mono ?_
    rintro e v2 ⟨B1, d1, rfl, y2, b2⟩
    replace K := Lib.hid (K.out.below b2)
    replace Q := Lib.hid (Q.out.below b2)
    replace Y := Lib.hid (Y.out.below b2 (Nat.le_refl _))
    replace HS := Lib.hid (HS.out.trans (b2.mono HS.out.size))
    have D := Lib.hid y2
    have z2 := b2.size
    clear b2 y2
    refine hJ.out _ _ HS.out (fun _ => ?_)
    clear hJ J
    go_simp
    refine wpAnyH_ready (rs := [10]) (by kernel_rfl) (by simp) (AllReadyH.cons rfl (fun J hJ => ?_) AllReadyH.nil)
    obtain ⟨k0, k1, k2, k3, k4, k5, k6, kf⟩ := K.out.cells7
    go_simp
    clear k0 k1 k2 k3 k4 k5 k6 kf
    obtain ⟨v3, hv3⟩ : ∃ v3, v2.setCell ⟨w.heap.size, 0, none⟩ (.slice A1 x.s.ss.length c1) = v3 := ⟨_, rfl⟩
    replace K : Hid (Bx v3 w.heap.size 31 #[.slice A1 x.s.ss.length c1, .int .i64 x.s.f, .int .i64 x.s.l, .int .i64 x.s.r, .int .i64 x.s.c, .slice B x.ds.length cb, .int .i64 x.q]) := by rw [← hv3]; exact K.out.set 0 _
    replace Q : Hid (Bx v3 (w.heap.size + 1) 31 #[.slice none 0 0, .int .i64 0, .int .i64 0, .int .i64 0, .int .i64 0, .slice none 0 0, .int .i64 0]) := by rw [← hv3]; exact Q.out.other (by simp) _
    replace Y : Hid (Que.SlV v3 (v).heap.size (v1).heap.size A1 x.s.ss) := by rw [← hv3]; exact Y.out.setCell (by exact zv) _
    replace D : Hid (Hp.DV v3 (v1).heap.size v2.heap.size B1 x.ds) := by rw [← hv3]; exact D.out.setCell (by show w.heap.size < (v1).heap.size; omega) _
    replace HS : Hid (Below w.heap.size w v3) := by rw [← hv3]; exact HS.out.setCell (Nat.le_refl _) _
    have z3 : v3.heap.size = v2.heap.size := by rw [← hv3]; simp [World.setCell]
    rw [hv3]
    clear hv3
    refine hJ.out _ _ HS.out (fun _ => ?_)
    clear hJ J
    go_simp
    refine wpAnyH_take (i := 11) (v := (.pointer (some ⟨w.heap.size, 5, none⟩))) rfl (by kernel_rfl) (by kernel_rfl) (by kernel_rfl) (fun _ _ _ h => h) (.inl ⟨rfl, fun V hS => ?y0⟩) HS.out ?_
    case y0 => go_simp
    go_simp
    refine wpAnyH_take (i := 12) (v := (.pointer (some ⟨w.heap.size, 5, none⟩))) rfl (by kernel_rfl) (by kernel_rfl) (by kernel_rfl) (fun _ _ _ h => h) (.inl ⟨rfl, fun V hS => ?y0⟩) HS.out ?_
    case y0 => go_simp
    go_simp
    refine wpAnyH_ready (rs := [13]) (by kernel_rfl) (by simp) (AllReadyH.cons rfl (fun J hJ => ?_) AllReadyH.nil)
    obtain ⟨k0, k1, k2, k3, k4, k5, k6, kf⟩ := K.out.cells7
    go_simp
    clear k0 k1 k2 k3 k4 k5 k6 kf
    obtain ⟨v4, hv4⟩ : ∃ v4, v3.setCell ⟨w.heap.size, 5, none⟩ (.slice B1 x.ds.length d1) = v4 := ⟨_, rfl⟩
    replace K : Hid (Bx v4 w.heap.size 31 #[.slice A1 x.s.ss.length c1, .int .i64 x.s.f, .int .i64 x.s.l, .int .i64 x.s.r, .int .i64 x.s.c, .slice B1 x.ds.length d1, .int .i64 x.q]) := by rw [← hv4]; exact K.out.set 5 _
    replace Q : Hid (Bx v4 (w.heap.size + 1) 31 #[.slice none 0 0, .int .i64 0, .int .i64 0, .int .i64 0, .int .i64 0, .slice none 0 0, .int .i64 0]) := by rw [← hv4]; exact Q.out.other (by simp) _
    replace Y : Hid (Que.SlV v4 (v).heap.size (v1).heap.size A1 x.s.ss) := by rw [← hv4]; exact Y.out.setCell (by exact zv) _
    replace D : Hid (Hp.DV v4 (v1).heap.size v2.heap.size B1 x.ds) := by rw [← hv4]; exact D.out.setCell (by show w.heap.size < (v1).heap.size; omega) _
    replace HS : Hid (Below w.heap.size w v4) := by rw [← hv4]; exact HS.out.setCell (Nat.le_refl _) _
    have z4 : v4.heap.size = v3.heap.size := by rw [← hv4]; simp [World.setCell]
    rw [hv4]
    clear hv4
    refine hJ.out _ _ HS.out (fun _ => ?_)
    clear hJ J
    refine wpAnyH_done (by kernel_rfl) ?_ _
    obtain ⟨k0, k1, k2, k3, k4, k5, k6, kf⟩ := K.out.cells7
    obtain ⟨q0, q1, q2, q3, q4, q5, q6, qf⟩ := Q.out.cells7
    go_wp2_with fail
    refine bodyPost_ret (v := .agg #[.slice A1 x.s.ss.length c1, .int .i64 x.s.f, .int .i64 x.s.l, .int .i64 x.s.r, .int .i64 x.s.c, .slice B1 x.ds.length d1, .int .i64 x.q]) (by simp [results, Try.results41, go_sem, q0, q1, q2, q3, q4, q5, q6]) rfl ⟨⟨(v).heap.size, (v1).heap.size, (v1).heap.size, v2.heap.size⟩, A1, c1, B1, d1, rfl, ?_⟩
    exact new_sto (g := w.heap.size + 1) (o := 0) (r := [.slice A1 x.s.ss.length c1, .int .i64 x.s.f, .int .i64 x.s.l, .int .i64 x.s.r, .int .i64 x.s.c, .slice B1 x.ds.length d1, .int .i64 x.q]) (v := v4) (n := v2.heap.size)
      ⟨.inl (Nat.le_refl _), Y.out, D.out⟩
      ⟨zv', z2, Nat.le_trans zv' z1, Nat.le_refl _⟩ (by omega) HS.out (by omega)
end Go.Proofs.Ytpjelojmkmednaa.Ln
