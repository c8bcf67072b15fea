/- The chart of chapter 7: drawn. -/
import Derived.Test.YtoknjofdpnjioaaDoorCn2
import Derived.Test.YtoknjofdpnjioaaDoorIntN
import Derived.Laws.NewBlocks
namespace Go.Proofs.YtoknjofdpnjioaaDoor.Cn
open Go.RowKit Go.Deep Base Rw

/-- The block of a chart: the once, its lock, the 35 states. -/
structure Ch (w : World) (b : Nat) (d l : Int) (f : Nat → Int) : Prop where
  done : w.cell? ⟨b, 0, none⟩ = some (.int .u32 d)
  lock : w.cell? ⟨b, 1, none⟩ = some (.int .i32 l)
  cell : ∀ i, i < 35 → w.cell? ⟨b, 3 + i, none⟩ = some (.int .i64 (f i))
  free : ∀ j, w.frozen? ⟨b, j, none⟩ = false

theorem Ch.of_block {w w' : World} {b : Nat} {d l : Int} {f : Nat → Int} (h : Ch w b d l f) (e : w'.heap[b]? = w.heap[b]?) : Ch w' b d l f :=
  ⟨(World.cell?_of_block e).trans h.done, (World.cell?_of_block e).trans h.lock, fun i hi => (World.cell?_of_block e).trans (h.cell i hi), fun j => (World.frozen?_of_block e).trans (h.free j)⟩

theorem Ch.lt {w : World} {b : Nat} {d l : Int} {f : Nat → Int} (h : Ch w b d l f) : b < w.heap.size := World.block_lt_of_cell? _ _ h.done

theorem Ch.below {w w' : World} {b : Nat} {d l : Int} {f : Nat → Int} (h : Ch w b d l f) (hb : Below w.heap.size w w') : Ch w' b d l f := h.of_block (hb.block b h.lt)

theorem off_ne {b i j : Nat} (h : i ≠ j) : (⟨b, i, none⟩ : Addr) ≠ ⟨b, j, none⟩ := fun e => h (by injection e)

theorem Ch.setDone {w : World} {b : Nat} {d l : Int} {f : Nat → Int} (h : Ch w b d l f) (x : Int) : Ch (w.setCell ⟨b, 0, none⟩ (.int .u32 x)) b x l f :=
  ⟨World.cell?_setCell_same _ _ _ h.done, (World.cell?_setCell_other _ _ _ _ (off_ne (by omega))).trans h.lock, fun i hi => (World.cell?_setCell_other _ _ _ _ (off_ne (by omega))).trans (h.cell i hi), fun j => by rw [World.frozen?_setCell]; exact h.free j⟩

theorem Ch.setLock {w : World} {b : Nat} {d l : Int} {f : Nat → Int} (h : Ch w b d l f) (x : Int) : Ch (w.setCell ⟨b, 1, none⟩ (.int .i32 x)) b d x f :=
  ⟨(World.cell?_setCell_other _ _ _ _ (off_ne (by omega))).trans h.done, World.cell?_setCell_same _ _ _ h.lock, fun i hi => (World.cell?_setCell_other _ _ _ _ (off_ne (by omega))).trans (h.cell i hi), fun j => by rw [World.frozen?_setCell]; exact h.free j⟩

theorem Ch.set {w : World} {b : Nat} {d l : Int} {f : Nat → Int} (h : Ch w b d l f) {p k : Nat} (hp : p = 3 + k) (hk : k < 35) (x : Int) : Ch (w.setCell ⟨b, p, none⟩ (.int .i64 x)) b d l (fun i => if i = k then x else f i) := by
  subst hp
  refine ⟨(World.cell?_setCell_other _ _ _ _ (off_ne (by omega))).trans h.done, (World.cell?_setCell_other _ _ _ _ (off_ne (by omega))).trans h.lock, fun i hi => ?_, fun j => by rw [World.frozen?_setCell]; exact h.free j⟩
  by_cases e : i = k
  · subst e
    rw [if_pos rfl]
    exact World.cell?_setCell_same _ _ _ (h.cell i hi)
  · rw [if_neg e]
    exact (World.cell?_setCell_other _ _ _ _ (off_ne (by omega))).trans (h.cell i hi)

theorem Ch.to {w : World} {b : Nat} {d l : Int} {f g : Nat → Int} (h : Ch w b d l f) (e : ∀ i, i < 35 → f i = g i) : Ch w b d l g := ⟨h.done, h.lock, fun i hi => by rw [← e i hi]; exact h.cell i hi, h.free⟩

/-- The first n entries are the rows' own states. -/
def idF (n : Nat) (f : Nat → Int) (i : Nat) : Int := if i < n then ((i / 7 : Nat) : Int) else f i

/-- The chart behind the first n moves. -/
def stF : Nat → List Int
  | 0 => (List.range 35).map fun i => ((i / 7 : Nat) : Int)
  | n + 1 => (stF n).set (((mvI.getD (3 * n + 1) 0) * 7 + mvI.getD (3 * n) 0).toNat) (mvI.getD (3 * n + 2) 0)

/-- The states behind the events, a row a state. -/
def goF (i : Nat) : Int := (stF 13).getD i 0

/-- The moves as the cells of their variable. -/
def mvV : List Value := mvI.map (Value.int .i64)

theorem mvs_range {w : World} (h : Mvs w) : w.rangeAt 1 0 mvV := by
  intro j v hj
  unfold mvV at hj
  rw [List.getElem?_map] at hj
  obtain ⟨z, hz, rfl⟩ := Option.map_eq_some_iff.1 hj
  have hl : j < 39 := by
    have := (List.getElem?_eq_some_iff.1 hz).1
    exact this
  rw [Nat.zero_add, h j hl, List.getD_eq_getElem?_getD, hz]
  rfl

set_option maxRecDepth 100000 in
theorem move_at (k : Nat) (hk : k < 13) (w : World) : (Instr.index 86 (.agg mvV.toArray) (.int .i64 (k : Int))).run Tryd.prog w =
    .ok (.agg #[.int .i64 (mvI.getD (3 * k) 0), .int .i64 (mvI.getD (3 * k + 1) 0), .int .i64 (mvI.getD (3 * k + 2) 0)]) w := by
  match k, hk with
  | 0, _ | 1, _ | 2, _ | 3, _ | 4, _ | 5, _ | 6, _ | 7, _ | 8, _ | 9, _ | 10, _ | 11, _ | 12, _ => rfl

def evN (k : Nat) : Nat := (mvI.getD (3 * k) 0).toNat
def frN (k : Nat) : Nat := (mvI.getD (3 * k + 1) 0).toNat
def toN (k : Nat) : Nat := (mvI.getD (3 * k + 2) 0).toNat
theorem mv_facts : ∀ k, k < 13 → evN k < 7 ∧ frN k < 5 ∧ mvI.getD (3 * k) 0 = (evN k : Int) ∧ mvI.getD (3 * k + 1) 0 = (frN k : Int) ∧ mvI.getD (3 * k + 2) 0 = (toN k : Int) := by decide

theorem st_len (n : Nat) : (stF n).length = 35 := by
  induction n with
  | zero => rfl
  | succ n ih => simp only [stF, List.length_set, ih]

theorem st_next (k : Nat) (hk : k < 13) (i : Nat) (hi : i < 35) : (if i = frN k * 7 + evN k then (toN k : Int) else (stF k).getD i 0) = (stF (k + 1)).getD i 0 := by
  obtain ⟨h1, h2, e1, e2, e3⟩ := mv_facts k hk
  simp only [stF]
  rw [e1, e2, e3, show ((frN k : Int) * 7 + (evN k : Int)).toNat = frN k * 7 + evN k by omega]
  rw [List.getD_eq_getElem?_getD, List.getD_eq_getElem?_getD, List.getElem?_set]
  have hl := st_len k
  by_cases e : i = frN k * 7 + evN k
  · rw [if_pos e, if_pos e.symm, if_pos (by omega)]
    rfl
  · rw [if_neg e, if_neg (fun h => e h.symm)]

theorem wpList_move {ops : Array Oper} {rest : List Oper} {op : Oper} {a : Act} {w : World} {Q : Exit → Act → World → Prop} (hgd : op.guard = none) (x ix : Operand) (ho : op.op = .index 86 x ix)
    (k : Nat) (hk : k < 13) (hx : a.eval x = .agg mvV.toArray) (hi : a.eval ix = .int .i64 (k : Int))
    (h : wpList Tryd.prog ops Q rest (a.put op.dst (.agg #[.int .i64 (evN k : Int), .int .i64 (frN k : Int), .int .i64 (toN k : Int)])) w) : wpList Tryd.prog ops Q (op :: rest) a w :=
  wpList_plain hgd fun _ hK => by
    obtain ⟨_, _, e1, e2, e3⟩ := mv_facts k hk
    have hr := move_at k hk w
    rw [e1, e2, e3] at hr
    unfold Oper.wp execOp
    simp only [ho, hx, hi, Sem.run_bind, hr, Sem.run_pure, Result.andThen_ok]
    exact hK _ _ h

set_option maxRecDepth 100000 in
set_option maxHeartbeats 1600000 in
theorem draw_any (b : Nat) (d l : Int) (f : Nat → Int) (w : World) (hc : Ch w b d l f) (hm : Mvs w) (hb1 : b ≠ 1) :
    Calls Tryd.prog 48 #[.pointer (some ⟨b, 0, none⟩)] w fun e w' => e = .returned (.tuple #[]) ∧ Ch w' b d l goF ∧ Turns b (b + 1) w w' := by
  have HM := Lib.hid hm
  have HC := Lib.hid hc
  clear hm hc
  go_enter Tryd.func48, Tryd.ntmps48
  go_wp2
  go_loopw [6] (fun s wr => ∃ k : Nat, k ≤ 5 ∧ s = .int .i64 k ∧ Ch wr b d l (idF (7 * k) f) ∧ Turns b (b + 1) w wr) (fun s _ => 5 - (intOf s).toNat)
  case atStart => exact ⟨0, by omega, rfl, HC.out.to (fun i _ => by simp [idF]), Turns.of_below (Below.refl _ _)⟩
  case round =>
    obtain ⟨k, hk, rfl, hch, ht⟩ := hrel
    obtain ⟨wo, rfl⟩ : ∃ wo, wo = wr := ⟨_, rfl⟩
    have HCo := Lib.hid hch
    have HTo := Lib.hid ht
    clear hch ht
    by_cases hlt : k < 5
    · go_wp2
      go_loopw [9] (fun e wr => ∃ j : Nat, j ≤ 7 ∧ e = .int .i64 j ∧ Ch wr b d l (idF (7 * k + j) f) ∧ Turns b (b + 1) w wr) (fun e _ => 7 - (intOf e).toNat)
      case atStart => exact ⟨0, by omega, rfl, HCo.out, HTo.out⟩
      case round =>
        obtain ⟨j, hj, rfl, hch, ht⟩ := hrel
        have HCi := Lib.hid hch
        have HTi := Lib.hid ht
        clear hch ht
        by_cases hlt2 : j < 7
        · have c1 := HCi.out.cell (7 * k + j) (by omega)
          rw [show 3 + (7 * k + j) = 3 + k * 7 + j by omega] at c1
          have z1 := HCi.out.free (3 + k * 7 + j)
          go_wp2
          go_roundw
          case rel => exact ⟨j + 1, by omega, by go_num, (HCi.out.set (show 3 + k * 7 + j = 3 + (7 * k + j) by omega) (by omega) (k : Int)).to (fun i hi => by
            simp only [idF]
            by_cases e : i = 7 * k + j
            · rw [if_pos e, if_pos (by omega)]; congr 1; omega
            · rw [if_neg e]
              by_cases l : i < 7 * k + j
              · rw [if_pos l, if_pos (by omega)]
              · rw [if_neg l, if_neg (by omega)]), HTi.out.setCell (Nat.le_refl _) (by simp) _⟩
          case measure => simp [intOf]; omega
        · obtain rfl : j = 7 := by omega
          go_wp2
          go_roundw
          case rel => exact ⟨k + 1, by omega, by go_num, by rw [show 7 * (k + 1) = 7 * k + 7 by omega]; exact HCi.out, HTi.out⟩
          case measure => simp [intOf]; omega
    · obtain rfl : k = 5 := by omega
      have hMo : Mvs wo := fun i hi => (World.cell?_of_block (HTo.out.block 1 (World.block_lt_of_cell? _ _ (HM.out i hi)) (by omega))).trans (HM.out i hi)
      have HR := Lib.hid (mvs_range hMo)
      clear hMo
      have Hsz : Hid ((Tryd.prog.info? 86).map (·.size) = some mvV.length) := Lib.hid (by kernel_rfl)
      obtain ⟨MV, hMV⟩ : ∃ MV, mvV.toArray = MV := ⟨_, rfl⟩
      go_wp2_with (refine wpList_load_mid rfl 86 (.global 1) rfl 1 0 rfl mvV _ HR.out Tryd.underlying86 rfl Hsz.out ?_; rw [hMV])
      go_loopw [23] (fun s wr => ∃ k : Nat, k ≤ 13 ∧ s = .int .i64 k ∧ Ch wr b d l (fun i => (stF k).getD i 0) ∧ Turns b (b + 1) w wr) (fun s _ => 13 - (intOf s).toNat)
      case atStart => exact ⟨0, by omega, rfl, HCo.out.to (fun i hi => by simp [idF, stF, hi]), HTo.out⟩
      case round =>
        obtain ⟨k, hk, rfl, hch, ht⟩ := hrel
        have HCi := Lib.hid hch
        have HTi := Lib.hid ht
        clear hch ht
        by_cases hlt3 : k < 13
        · obtain ⟨hev, hfr, -, -, -⟩ := mv_facts k hlt3
          have hbs := HCi.out.lt
          have c1 := HCi.out.cell (frN k * 7 + evN k) (by omega)
          rw [show 3 + (frN k * 7 + evN k) = 3 + frN k * 7 + evN k by omega] at c1
          have z1 := HCi.out.free (3 + frN k * 7 + evN k)
          have HNx := Lib.hid (st_next k hlt3)
          obtain ⟨fr, hfr'⟩ : ∃ x, frN k = x := ⟨_, rfl⟩
          obtain ⟨ev, hev'⟩ : ∃ x, evN k = x := ⟨_, rfl⟩
          obtain ⟨to, hto'⟩ : ∃ x, toN k = x := ⟨_, rfl⟩
          have HX : ∀ {ops : Array Oper} {rest : List Oper} {op : Oper} {a : Act} {w : World} {Q : Exit → Act → World → Prop} (_ : op.guard = none) (x ix : Operand) (_ : op.op = .index 86 x ix) (_ : a.eval x = .agg MV) (_ : a.eval ix = .int .i64 (k : Int))
              (_ : wpList Tryd.prog ops Q rest (a.put op.dst (.agg #[.int .i64 (ev : Int), .int .i64 (fr : Int), .int .i64 (to : Int)])) w), wpList Tryd.prog ops Q (op :: rest) a w := by
            intro ops rest op a w Q h1 x ix h2 h3 h4 h5
            rw [← hMV] at h3
            rw [← hfr', ← hev', ← hto'] at h5
            exact wpList_move h1 x ix h2 k hlt3 h3 h4 h5
          rw [hfr'] at hfr c1 z1 HNx
          rw [hev'] at hev c1 z1 HNx
          rw [hto'] at HNx
          clear hfr' hev' hto'
          go_wp2_with (refine HX rfl (.tmp 22) (.tmp 23) rfl rfl rfl ?_)
          go_region
          all_goals
            go_wp2
            go_roundw
            case rel => exact ⟨k + 1, by omega, by go_num, ((HCi.out.set (k := fr * 7 + ev) (by omega) (by omega) (to : Int)).to HNx.out).below (Below.drew (bel_alloc _ _)), (HTi.out.setCell (Nat.le_refl _) (by simp) _).trans (Turns.of_below (Below.drew (bel_alloc _ _)))⟩
            case measure => simp [intOf]; omega
        · obtain rfl : k = 13 := by omega
          go_wp2
          go_end0
          exact ⟨rfl, HCi.out, HTi.out⟩
end Go.Proofs.YtoknjofdpnjioaaDoor.Cn
