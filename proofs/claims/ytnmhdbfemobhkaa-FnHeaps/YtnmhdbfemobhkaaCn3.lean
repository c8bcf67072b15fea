/- What spec.l03Copy makes. -/
import Derived.Test.YtnmhdbfemobhkaaCn2
import Derived.Deep.RegionLaw
import Derived.Deep.AppendLies
namespace Go.Proofs.Ytnmhdbfemobhkaa.Hp
open Go.RowKit Go.Deep Base

theorem cellsL_one (s : Du) : cellsL [s] = [.int .i64 s.at, .int .i64 s.seq, .int .i64 s.id] := rfl
theorem new_three_at {w : World} {B : Nat} (h : w.heap.size = B) (a b c : Value) (t : TypeId) : ∀ j u, [a, b, c][j]? = some u → (w.alloc (.cells #[a, b, c] t)).cell? ((⟨B, 0, none⟩ : Addr).add j) = some u := by
  subst h
  intro j u hj
  have ea : (⟨w.heap.size, 0, none⟩ : Addr).add j = ⟨w.heap.size, j, none⟩ := by
    unfold Addr.add; split
    · next h => subst h; rfl
    · simp
  rw [ea, cell_of_row _ _ j #[a, b, c] t (0, 0) (heap_alloc_new w _)]
  simpa using hj

theorem Blk2.set0 {w : World} {g : Nat} {v0 v1 : Value} (h : Blk2 w g v0 v1) (u : Value) : Blk2 (w.setCell ⟨g, 0, none⟩ u) g u v1 := by
  unfold Blk2 at h ⊢
  simp [World.setCell, Array.getElem?_modify, h]

theorem grown_set (w : World) (b o : Nat) (u : Value) : w.grownBy (w.setCell ⟨b, o, none⟩ u) (some b) :=
  ⟨rfl, rfl, rfl, by simp [World.setCell], fun k _ hk => heap_setCell_other w _ _ _ (fun e => hk (by rw [e]))⟩

theorem far_cells {wr w1 : World} {B : Nat} {v : Value} {e : TypeId} {size k : Nat} {xs : List Value} {o : Obj} (hg : (wr.alloc o).drew.grownBy w1 v.ownBlock) (h : wr.ownsRow B e size v k xs) :
    ∀ b j, b < B ∧ b < wr.heap.size → w1.cell? ⟨b, j, none⟩ = wr.cell? ⟨b, j, none⟩ := fun b j hb => by
  have e1 : w1.heap[b]? = (wr.alloc o).heap[b]? := hg.block b (by show b < (wr.alloc o).heap.size; simp; omega) (fun e => by have := (h.lt b e.symm).1; omega)
  exact World.cell?_of_block (w := wr) (e1.trans (Below.heap_alloc wr o b hb.2))
theorem far_frozen {wr w1 : World} {B : Nat} {v : Value} {e : TypeId} {size k : Nat} {xs : List Value} {o : Obj} (hg : (wr.alloc o).drew.grownBy w1 v.ownBlock) (h : wr.ownsRow B e size v k xs) :
    ∀ b j, b < B ∧ b < wr.heap.size → w1.frozen? ⟨b, j, none⟩ = wr.frozen? ⟨b, j, none⟩ := fun b j hb => by
  have e1 : w1.heap[b]? = (wr.alloc o).heap[b]? := hg.block b (by show b < (wr.alloc o).heap.size; simp; omega) (fun e => by have := (h.lt b e.symm).1; omega)
  exact World.frozen?_of_block (w := wr) (e1.trans (Below.heap_alloc wr o b hb.2))
theorem grown_undrew {a b : World} {row : Option Nat} (h : a.drew.grownBy b row) : a.grownBy b row := ⟨h.os, h.tape, h.output, h.size, h.block⟩

structure CopySt (B : Nat) (w wr : World) (v q : Value) (k : Nat) (ds : List Du) : Prop where
  box : Blk2 wr (B + 1 + 1) v q
  own : wr.ownsRow (B + 1 + 1 + 1) 39 3 v k (cellsL (ds.take k))
  old : Below (B + 1 + 1) w wr

theorem CopySt.step {B : Nat} {w wr w1 : World} {v v' q : Value} {k : Nat} {ds : List Du} {o : Obj} (h : CopySt B w wr v q k ds) {xs : List Value} (hx : cellsL (ds.take (k + 1)) = xs) (hown : w1.ownsRow (B + 1 + 1 + 1) 39 3 v' (k + 1) xs) (hg : (wr.alloc o).grownBy w1 v.ownBlock) :
    CopySt B w (w1.setCell ⟨B + 1 + 1, 0, none⟩ v') v' q (k + 1) ds := by
  have hlt := h.box.lt
  have hne : some (B + 1 + 1) ≠ v.ownBlock := fun e => by have := (h.own.lt _ e.symm).1; omega
  have hb1 : Blk2 w1 (B + 1 + 1) v q := (h.box.alloc o).of_block (hg.block _ (by simp; omega) hne)
  refine ⟨hb1.set0 v', ?_, ?_⟩
  · rw [hx]
    refine hown.kept (grown_set _ _ _ _) (.inr fun e => ?_)
    have := (hown.lt _ e).1
    omega
  · exact ((h.old.alloc (by omega) o).grown hg (by simp; omega) (fun j e => by have := (h.own.lt j e).1; omega)).setCell (by simp) _

def LoopC (B : Nat) (w wr : World) (q : Value) (k : Nat) (ds : List Du) : Prop := ∃ v, CopySt B w wr v q k ds

/-- A new heap comes back, with the form of its slice's block. -/
def NewHS (w : World) (n : Nat) (ds : List Du) (q : Int) (e : Ending) (w' : World) : Prop :=
  ∃ A cap, e = .returned (.agg #[.slice A n cap, .int .i64 q]) ∧ DV w' w.heap.size w'.heap.size A ds ∧ Below w.heap.size w w' ∧ Sh w' w.heap.size w'.heap.size A n cap

set_option maxHeartbeats 1000000 in
theorem copy_any (A : Option Addr) (n cap lo hi : Nat) (q : Int) (ds : List Du) (w : World) (hn : ds.length = n) (hm : n ≤ 1048576) (h : DV w lo hi A ds) (hs : hi ≤ w.heap.size) :
    Calls Try.prog 62 #[.agg #[.slice A n cap, .int .i64 q]] w (NewHS w n ds q) := by
  have Hn := Lib.hid hn
  clear hn
  have HI := Lib.hid h
  clear h
  go_enter Try.func62, Try.ntmps62
  go_wp2
  go_loopw [4] (fun i wr => ∃ k : Nat, k ≤ n ∧ i = .int .i64 k ∧ LoopC w.heap.size ((w.alloc (.cells #[.slice A n cap, .int .i64 q] 28)).alloc (.cells #[.slice none 0 0, .int .i64 0] 28)) wr (.int .i64 q) k ds) (fun i _ => n - (intOf i).toNat)
  case atStart =>
    refine ⟨0, Nat.zero_le _, rfl, .slice none 0 0, ⟨?_, ?_, ?_⟩⟩
    · have h := heap_alloc_new ((w.alloc (.cells #[.slice A n cap, .int .i64 q] 28)).alloc (.cells #[.slice none 0 0, .int .i64 0] 28)) (.cells #[.slice none 0 0, .int .i64 q] 28)
      simp only [World.size_alloc] at h
      exact h
    · exact World.ownsRow_nil _ _ _ _
    · exact (Below.refl _ _).alloc (by simp) _
  case round =>
    obtain ⟨k, hk, rfl, v, hst⟩ := hrel
    have Hst := Lib.hid hst
    clear hst
    obtain ⟨b0, _, _⟩ := (Blk2.of_block (w := (w.alloc (.cells #[.slice A n cap, .int .i64 q] 28)).alloc (.cells #[.slice none 0 0, .int .i64 0] 28)) (Blk2.alloc (heap_alloc_new w _) _) (Hst.out.old.block w.heap.size (by omega))).cells
    obtain ⟨x0, x1, xf⟩ := Hst.out.box.cells
    by_cases hlt : k < n
    · have Hb : Hid (Below w.heap.size w wr) := ((((Below.refl _ _).alloc (Nat.le_refl _) _).alloc (by simp) _).trans (Hst.out.old.mono (by omega)))
      obtain ⟨g, rfl, hg1, hg2, hcs⟩ := (HI.out.below Hb.out hs) (by have := Hn.out; omega)
      obtain ⟨c0, c1, c2, _⟩ := hcs k (by have := Hn.out; omega)
      clear hcs
      have Hx : Hid (cellsL (ds.take (k + 1)) = cellsL (ds.take k) ++ [.int .i64 (ds.getD k zDu).at, .int .i64 (ds.getD k zDu).seq, .int .i64 (ds.getD k zDu).id]) := by
        have hk' : k < ds.length := by have := Hn.out; omega
        show _ = _
        rw [List.take_succ_eq_append_getElem hk', cellsL_append, ← cellsL_one]; simp [List.getD_eq_getElem?_getD, hk']
      generalize ds.getD k zDu = s at c0 c1 c2 Hx
      obtain ⟨i0, hi0, hz0, hz1, hz2⟩ := info_parts infoDue
      have Hi0 := Lib.hid hi0
      have Hz0 := Lib.hid hz0
      have Hz1 := Lib.hid hz1
      have Hz2 := Lib.hid hz2
      clear hi0 hz0 hz1 hz2
      have hsz := Hst.out.box.lt
      have hne : some (w.heap.size + 1 + 1) ≠ v.ownBlock := fun e => by have := (Hst.out.own.lt _ e.symm).1; omega
      have hne2 : some (w.heap.size) ≠ v.ownBlock := fun e => by have := (Hst.out.own.lt _ e.symm).1; omega
      have hne3 : some g ≠ v.ownBlock := fun e => by have := (Hst.out.own.lt _ e.symm).1; omega
      have HH : Hid ((w.heap.size + 1 + 1 < w.heap.size + 1 + 1 + 1 ∧ w.heap.size + 1 + 1 < wr.heap.size) ∧ (w.heap.size < w.heap.size + 1 + 1 + 1 ∧ w.heap.size < wr.heap.size) ∧ (g < w.heap.size + 1 + 1 + 1 ∧ g < wr.heap.size)) := ⟨by omega, by omega, by omega⟩
      have HG : Hid (w.heap.size ≠ w.heap.size + 1 + 1 ∧ g ≠ w.heap.size + 1 + 1) := ⟨by omega, by omega⟩
      have hk0 : (0 : Int) ≤ (k : Int) := Int.natCast_nonneg _
      have hk1 : (k : Int) < (n : Int) := by omega
      go_wp2
      go_region_law
        ((refine step_append_lies _ (by rfl) _ _ _ (by rfl) (w.heap.size + 1 + 1 + 1) 39 i0 _ 3 24 Try.underlying26 Hi0.out Hz0.out Hz1.out Hz2.out rfl (by omega) v k _ (by rfl) ((Hst.out.own.alloc _).drew)
            ⟨wr.heap.size, 0, none⟩ 1 1 [.int .i64 s.at, .int .i64 s.seq, .int .i64 s.id] (by rfl) (by rfl) (new_three_at (w := wr) rfl _ _ _ _) (by simp [Value.oneCell'])
            (by omega) (by unfold maxLen; omega) (by omega) (by simp; omega) (wr.heap.size + 1) (by simp) ?_; intro gg cap' w1 hown hgrow hat hlt'; have yq := (far_cells hgrow Hst.out.own (w.heap.size + 1 + 1) 0 HH.out.1).trans x0; have yf := (far_frozen hgrow Hst.out.own (w.heap.size + 1 + 1) 0 HH.out.1).trans (xf 0)))
      all_goals
        have HQ := Lib.hid (Hst.out.step Hx.out hown (grown_undrew hgrow))
        clear hown hgrow hat hlt' yq yf hne hne2 hne3 hk0 hk1
        go_wp2
        go_roundw
        case rel => exact ⟨k + 1, by omega, by go_num, _, HQ.out⟩
        case measure => simp [intOf]; omega
    · obtain rfl : k = n := by omega
      obtain ⟨A', cap', rfl⟩ := owns_form Hst.out.own
      obtain ⟨z0, z1, zf⟩ := (Blk2.of_block (w := (w.alloc (.cells #[.slice A k cap, .int .i64 q] 28)).alloc (.cells #[.slice none 0 0, .int .i64 0] 28)) (g := w.heap.size + 1) (by have h := heap_alloc_new (w.alloc (.cells #[.slice A k cap, .int .i64 q] 28)) (.cells #[.slice none 0 0, .int .i64 0] 28); rw [World.size_alloc] at h; exact h) (Hst.out.old.block (w.heap.size + 1) (by omega))).cells
      have ho := Hst.out.own
      rw [show ds.take k = ds from List.take_of_length_le (by have := Hn.out; omega)] at ho
      have Ho := Lib.hid ho
      clear ho
      go_wp2
      refine bodyPost_ret (v := .agg #[.slice A' k cap', .int .i64 q]) (by simp [results, Try.results62, go_sem, z0, z1]) rfl ⟨A', cap', rfl, ?_, ?_, ?_⟩
      · refine DV.wide (lo := w.heap.size + 1 + 1 + 1) (hi := wr.heap.size) ?_ (by omega) (by simp [World.setCell])
        iterate 2 refine DV.setCell ?_ (by simp <;> omega) _
        exact dv_owns Hn.out Ho.out
      · iterate 2 refine Below.setCell ?_ (by simp <;> omega) _
        exact (((Below.refl _ _).alloc (Nat.le_refl _) _).alloc (by simp) _).trans (Hst.out.old.mono (by omega))
      · refine Sh.wide (lo := w.heap.size + 1 + 1 + 1) (hi := wr.heap.size) ?_ (by omega) (by simp [World.setCell])
        iterate 2 refine Sh.setCell ?_ (by simp <;> omega) _
        exact sh_owns Ho.out
end Go.Proofs.Ytnmhdbfemobhkaa.Hp
