/- Rows of bytes: one that came in, one that a call has made; compared, marked, held, copied, grown. -/
import Derived.Test.YtcgmeindiaaokaaDoorIntN
import Derived.Test.YtcgmeindiaaokaaDoorBy1
import Derived.Maps.AppendAt
import Derived.Lib.SliceRun
import Derived.Deep.RegionHeld3
import Derived.Deep.RegionLaw
import Derived.OpenShut
namespace Go.Proofs.YtcgmeindiaaokaaDoor.By
open Go.RowKit Go.Deep Base Rw

/-- The numbers are bytes. -/
def isB (zs : List Int) : Prop := ∀ g ∈ zs, 0 ≤ g ∧ g ≤ 255
theorem isB.at {zs : List Int} (h : isB zs) {i : Nat} (hi : i < zs.length) : 0 ≤ zs.getD i 0 ∧ zs.getD i 0 ≤ 255 := by
  have : zs.getD i 0 = zs[i] := by simp [List.getD_eq_getElem?_getD, hi]
  rw [this]
  exact h _ (List.getElem_mem hi)
theorem isB.take {zs : List Int} (h : isB zs) (k : Nat) : isB (zs.take k) := fun g hg => h g (List.mem_of_mem_take hg)
theorem isB.drop {zs : List Int} (h : isB zs) (k : Nat) : isB (zs.drop k) := fun g hg => h g (List.mem_of_mem_drop hg)
/-- The bytes zs lie at A. -/
def BI (w : World) (A : Option Addr) (zs : List Int) : Prop := 0 < zs.length → ∃ b off, A = some ⟨b, off, none⟩ ∧ ∀ i, i < zs.length → w.cell? ⟨b, off + i, none⟩ = some (.int .u8 (zs.getD i 0))
def RB (w : World) (g : Nat) (zs : List Int) : Prop := ∀ i, i < zs.length → w.cell? ⟨g, i, none⟩ = some (.int .u8 (zs.getD i 0)) ∧ ∀ j, w.frozen? ⟨g, j, none⟩ = false
/-- The same in a block from lo on and ahead of hi, that may be written. -/
def BV (w : World) (lo hi : Nat) (A : Option Addr) (zs : List Int) : Prop := 0 < zs.length → ∃ g, A = some ⟨g, 0, none⟩ ∧ lo ≤ g ∧ g < hi ∧ RB w g zs
/-- A new row of bytes comes back. -/
def NewY (w : World) (zs : List Int) (e : Ending) (w' : World) : Prop := ∃ A cap, e = .returned (.slice A zs.length cap) ∧ BV w' w.heap.size w'.heap.size A zs ∧ Below w.heap.size w w'

theorem BI.nil (w : World) (A : Option Addr) : BI w A [] := fun h => absurd h (by simp)
theorem BI.below {w w' : World} {A : Option Addr} {zs : List Int} (h : BI w A zs) (hb : Below w.heap.size w w') : BI w' A zs := by
  intro hp
  obtain ⟨b, off, rfl, hc⟩ := h hp
  exact ⟨b, off, rfl, fun i hi => (hb.cell (World.block_lt_of_cell? _ _ (hc i hi))).trans (hc i hi)⟩
theorem RB.of_block {w w' : World} {g : Nat} {zs : List Int} (h : RB w g zs) (e : w'.heap[g]? = w.heap[g]?) : RB w' g zs := fun i hi =>
  ⟨(World.cell?_of_block e).trans (h i hi).1, fun j => (World.frozen?_of_block e).trans ((h i hi).2 j)⟩
theorem BV.of_block {w w' : World} {lo hi : Nat} {A : Option Addr} {zs : List Int} (h : BV w lo hi A zs) (e : ∀ g, lo ≤ g → g < hi → w'.heap[g]? = w.heap[g]?) : BV w' lo hi A zs := by
  intro hp
  obtain ⟨g, rfl, h1, h2, h3⟩ := h hp
  exact ⟨g, rfl, h1, h2, h3.of_block (e g h1 h2)⟩
theorem BV.wide {w : World} {lo hi lo' hi' : Nat} {A : Option Addr} {zs : List Int} (h : BV w lo hi A zs) (h1 : lo' ≤ lo) (h2 : hi ≤ hi') : BV w lo' hi' A zs := by
  intro hp
  obtain ⟨g, rfl, h1', h2', h3⟩ := h hp
  exact ⟨g, rfl, by omega, by omega, h3⟩
theorem BV.below {w w' : World} {lo hi B : Nat} {A : Option Addr} {zs : List Int} (h : BV w lo hi A zs) (hb : Below B w w') (hB : hi ≤ B) : BV w' lo hi A zs :=
  h.of_block fun g _ h2 => hb.block g (by omega)
theorem BV.turns {w w' : World} {lo hi l h : Nat} {A : Option Addr} {zs : List Int} (s : BV w lo hi A zs) (t : Turns l h w w') (hd : hi ≤ l ∨ h ≤ lo) (hs : hi ≤ w.heap.size) : BV w' lo hi A zs :=
  s.of_block fun g _ h2 => t.block g (by omega) (by omega)
theorem BV.bi {w : World} {lo hi : Nat} {A : Option Addr} {zs : List Int} (h : BV w lo hi A zs) : BI w A zs := by
  intro hp
  obtain ⟨g, rfl, _, _, h3⟩ := h hp
  exact ⟨g, 0, rfl, fun i hi => by rw [Nat.zero_add]; exact (h3 i hi).1⟩
theorem BV.nil (w : World) (lo hi : Nat) (A : Option Addr) : BV w lo hi A [] := fun h => absurd h (by simp)
theorem bi_of {w : World} {a : Option Addr} {len cap : Nat} {zs : List Int} (h : IsRow .u8 w a len cap zs) : BI w a (zs.take len) ∧ isB (zs.take len) := by
  have hl := h.len.2.2
  rcases h with ⟨rfl, rfl, rfl, rfl⟩ | ⟨x, rfl, hl', hm, hz, hcell, hwf⟩
  · exact ⟨BI.nil _ _, fun g hg => by simp at hg⟩
  · refine ⟨fun hp => ?_, fun g hg => bounds_u8 (hwf g (List.mem_of_mem_take hg))⟩
    have hne : 0 < zs.length := by omega
    obtain ⟨b, off, spot⟩ := x
    have h0 := hcell 0 hne
    have hs : spot = none := by simpa [Addr.add] using World.cell?_spot h0
    subst hs
    refine ⟨b, off, rfl, fun i hi => ?_⟩
    have hi' : i < zs.length := by omega
    have := hcell i hi'
    rw [Addr.add_mid] at this
    rw [this]
    simp [List.getD_eq_getElem?_getD, show i < len by omega]
theorem bv_owns {w : World} {base n cap : Nat} {e : TypeId} {A : Option Addr} {zs : List Int} (h : w.ownsRow base e 1 (.slice A n cap) n (zs.map (Value.int .u8))) : BV w base w.heap.size A zs := by
  intro hp
  have hl := h.1
  simp at hl
  rcases h.2 with ⟨hv, hn⟩ | ⟨g, cap', cur, hv, hb, hg, hfr⟩
  · omega
  · injection hv with hA _ _
    subst hA
    have hc : w.ownsRow base e 1 (.slice (some ⟨g, 0, none⟩) n cap) n (zs.map (Value.int .u8)) := h
    refine ⟨g, rfl, hb, (h.lt g rfl).2, fun i hi => ⟨?_, fun j => ?_⟩⟩
    · rw [hc.cellAt i (by omega)]
      simp [hi]
    · simp [World.frozen?, hg]

/-- A row of bytes that grows by append. -/
structure BSt (B : Nat) (W wr : World) (v : Value) (zs : List Int) : Prop where
  own : wr.ownsRow B 5 1 v zs.length (zs.map (Value.int .u8))
  old : Below B W wr
theorem BSt.step {B : Nat} {W wr w1 : World} {v v' : Value} {zs : List Int} {x : Int} {o : Obj} (h : BSt B W wr v zs) (hB : B ≤ W.heap.size) (hown : w1.ownsRow B 5 1 v' (zs.length + 1) (zs.map (Value.int .u8) ++ [.int .u8 x])) (hg : (wr.alloc o).grownBy w1 v.ownBlock) : BSt B W w1 v' (zs ++ [x]) := by
  have hsz : B ≤ wr.heap.size := Nat.le_trans hB h.old.size
  refine ⟨by simpa using hown, (h.old.alloc hsz o).grown hg (by simp; omega) (fun j e => by have := (h.own.lt j e).1; omega)⟩
theorem BSt.many {B : Nat} {W wr w1 : World} {v v' : Value} {zs xs : List Int} (h : BSt B W wr v zs) (hB : B ≤ W.heap.size) (hown : w1.ownsRow B 5 1 v' (zs.length + xs.length) (zs.map (Value.int .u8) ++ xs.map (Value.int .u8))) (hg : wr.grownBy w1 v.ownBlock) : BSt B W w1 v' (zs ++ xs) := by
  have hsz : B ≤ wr.heap.size := Nat.le_trans hB h.old.size
  refine ⟨by simpa using hown, h.old.grown hg hsz (fun j e => by have := (h.own.lt j e).1; omega)⟩
theorem BSt.keep {B : Nat} {W wr w2 : World} {v : Value} {zs : List Int} (h : BSt B W wr v zs) (hB : B ≤ wr.heap.size) (hb : Below wr.heap.size wr w2) : BSt B W w2 v zs :=
  ⟨h.own.kept (grown_below hb none) (by cases v.ownBlock <;> simp), h.old.trans (hb.mono hB)⟩
theorem BSt.nil (W : World) (B : Nat) : BSt B W W (.slice none 0 0) [] := ⟨World.ownsRow_nil _ _ _ _, Below.refl _ _⟩
theorem BSt.empty (W : World) {B : Nat} (hB : B ≤ W.heap.size) : BSt B W (W.alloc (.cells #[] 5)) (.slice (some ⟨W.heap.size, 0, none⟩) 0 0) [] := by
  refine ⟨?_, (bel_alloc _ _).mono hB⟩
  have h := World.ownsRow_lit (base := B) (e := 5) (size := 1) W #[] 0 hB (by simp) (by simp)
  simpa using h
theorem BSt.newY {W wr : World} {A : Option Addr} {n cap : Nat} {zs : List Int} (h : BSt W.heap.size W wr (.slice A n cap) zs) : NewY W zs (.returned (.slice A n cap)) wr := by
  have hn : zs.length = n := by
    rcases h.own.2 with ⟨hv, h0⟩ | ⟨g, cap', cur, hv, _⟩
    · cases hv; omega
    · cases hv; rfl
  subst hn
  exact ⟨A, cap, rfl, bv_owns h.own, h.old⟩
theorem BSt.form {B : Nat} {W wr : World} {v : Value} {zs : List Int} (h : BSt B W wr v zs) : ∃ A cap, v = .slice A zs.length cap ∧ BV wr B wr.heap.size A zs := by
  obtain ⟨A, cap, rfl⟩ := owns_form h.own
  exact ⟨A, cap, rfl, bv_owns h.own⟩

theorem map_oneY (zs : List Int) : ∀ u ∈ zs.map (Value.int .u8), u.oneCell' = true := by
  intro u hu
  rw [List.mem_map] at hu
  obtain ⟨z, _, rfl⟩ := hu
  rfl
theorem infoY : (Tryd.prog.info? 5).map (fun i => (i.zero, i.size, i.bytes)) = some (some (.int .u8 0), 1, 1) := by kernel_rfl

def ToY (w wr : World) (n : Nat) (zs : List Int) (k : Nat) : Prop :=
  wr.rowIs w.heap.size 5 n (fun j => if j < k then .int .u8 (zs.getD j 0) else .int .u8 0) ∧ Below w.heap.size w wr
theorem ToY.start (w : World) (n : Nat) (zs : List Int) : ToY w (w.alloc (.cells (madeCells #[.int .u8 0] n) 5)) n zs 0 :=
  ⟨(World.rowIs_made w (.int .u8 0) n 5).congr (fun i _ => by simp), bel_alloc _ _⟩
theorem ToY.step {w wr : World} {n k : Nat} {zs : List Int} (h : ToY w wr n zs k) : ToY w (wr.setCell ⟨w.heap.size, k, none⟩ (.int .u8 (zs.getD k 0))) n zs (k + 1) := by
  refine ⟨(h.1.set k _).congr (fun i _ => ?_), h.2.setCell (Nat.le_refl _) _⟩
  by_cases e : i = k
  · subst e; rw [if_pos rfl, if_pos (by omega)]
  · rw [if_neg e]
    by_cases l : i < k
    · rw [if_pos l, if_pos (by omega)]
    · rw [if_neg l, if_neg (by omega)]

/-- A copy in a block of its own. -/
def CopyY (w : World) (n : Nat) (zs : List Int) (e : Ending) (w' : World) : Prop :=
  e = .returned (.slice (some ⟨w.heap.size, 0, none⟩) n n) ∧ BV w' w.heap.size w'.heap.size (some ⟨w.heap.size, 0, none⟩) zs ∧ Below w.heap.size w w'

set_option maxHeartbeats 400000 in
theorem toY_any (A : Option Addr) (n cap : Nat) (zs : List Int) (w : World) (hn : zs.length = n) (hm : n ≤ 1048576) (h : BI w A zs) :
    Calls Tryd.prog 20 #[.slice A n cap] w (CopyY w n zs) := by
  have hmk := run_make_row' (P := Tryd.prog) 22 5 (.int .u8 0) 1 Tryd.underlying22 infoY rfl .i64 .i64 n (by omega) (by omega)
  have Hn := Lib.hid hn
  clear hn
  have HI := Lib.hid h
  clear h
  go_enter Tryd.func20, Tryd.ntmps20
  go_wp2
  clear hmk
  go_loopw [4] (fun i wr => ∃ k : Nat, k ≤ n ∧ i = .int .i64 k ∧ ToY w wr n zs k) (fun i _ => n - (intOf i).toNat)
  case atStart => exact ⟨0, Nat.zero_le _, rfl, ToY.start w n zs⟩
  case round =>
    obtain ⟨k, hk, rfl, hr⟩ := hrel
    by_cases hlt : k < n
    · obtain ⟨b, off, rfl, hc⟩ := HI.out.below hr.2 (by have := Hn.out; omega)
      have hck := hc k (by have := Hn.out; omega)
      clear hc
      have hz : wr.cell? ⟨w.heap.size, k, none⟩ = some (.int .u8 0) := by
        have := hr.1.cell hlt
        rw [if_neg (by omega)] at this
        exact this
      have hf : wr.frozen? ⟨w.heap.size, k, none⟩ = false := hr.1.frozen k
      have Hs := Lib.hid hr.step
      clear hr
      generalize zs.getD k 0 = z at hck Hs
      go_wp2
      go_roundw
      case rel => exact ⟨k + 1, by omega, by go_num, Hs.out⟩
      case measure => simp [intOf]; omega
    · have Hr := Lib.hid hr
      clear hr
      go_wp2
      go_ret
      refine ⟨rfl, fun hp => ⟨w.heap.size, rfl, Nat.le_refl _, World.block_lt_of_cell? _ _ (Hr.out.1.cell (i := 0) (by have := Hn.out; omega)), fun i hi => ⟨?_, fun j => Hr.out.1.frozen j⟩⟩, Hr.out.2⟩
      have hik : i < k := by have := Hn.out; omega
      have := Hr.out.1.cell (i := i) (by omega)
      rw [if_pos hik] at this
      exact this

set_option maxHeartbeats 400000 in
theorem eqY_same (A1 A2 : Option Addr) (n c1 c2 : Nat) (zs : List Int) (w : World) (hn : zs.length = n) (hm : n ≤ 1048576) (h1 : BI w A1 zs) (h2 : BI w A2 zs) :
    Calls Tryd.prog 22 #[.slice A1 n c1, .slice A2 n c2] w fun e w' => e = .returned (.bool true) ∧ Below w.heap.size w w' := by
  have Hn := Lib.hid hn
  clear hn
  have H1 := Lib.hid h1
  have H2 := Lib.hid h2
  clear h1 h2
  go_enter Tryd.func22, Tryd.ntmps22
  go_wp2
  go_loopw [5] (fun i wr => ∃ k : Nat, k ≤ n ∧ i = .int .i64 k ∧ Below w.heap.size w wr) (fun i _ => n - (intOf i).toNat)
  case atStart => exact ⟨0, Nat.zero_le _, rfl, Below.refl _ _⟩
  case round =>
    obtain ⟨k, hk, rfl, hr⟩ := hrel
    by_cases hlt : k < n
    · obtain ⟨b, off, rfl, hc⟩ := H1.out.below hr (by have := Hn.out; omega)
      have hc1 := hc k (by have := Hn.out; omega)
      clear hc
      obtain ⟨b', off', rfl, hc⟩ := H2.out.below hr (by have := Hn.out; omega)
      have hc2 := hc k (by have := Hn.out; omega)
      clear hc
      generalize zs.getD k 0 = z at hc1 hc2
      go_wp2
      go_region
      all_goals
        go_wp2
        go_roundw
        case rel => exact ⟨k + 1, by omega, by go_num, by repeat (first | exact hr | apply Below.drew)⟩
        case measure => simp [intOf]; omega
    · go_wp2
      go_ret
      exact ⟨rfl, hr⟩

def mkY (k : Int) (n : Nat) : List Int := (List.range n).map fun (i : Nat) => (k + (i : Int)) % 256
theorem mkY_len (k : Int) (n : Nat) : (mkY k n).length = n := by simp [mkY]
theorem mkY_at (k : Int) (n i : Nat) (h : i < n) : (mkY k n).getD i 0 = (k + (i : Int)) % 256 := by simp [mkY, h]
theorem wrap_u8 (x : Int) : IntKind.u8.wrap x = x % 256 := by simp [IntKind.wrap, IntKind.bits, IntKind.signed]

def MarkY (w wr : World) (lo hi : Nat) (A : Option Addr) (n : Nat) (k : Int) (zs : List Int) (i : Nat) : Prop :=
  (0 < n → ∃ g, A = some ⟨g, 0, none⟩ ∧ lo ≤ g ∧ g < hi ∧ ∀ j, j < n → wr.cell? ⟨g, j, none⟩ = some (.int .u8 (if j < i then (k + (j : Int)) % 256 else zs.getD j 0)) ∧ ∀ o, wr.frozen? ⟨g, o, none⟩ = false) ∧ Turns lo hi w wr
theorem MarkY.step {w wr : World} {lo hi g n i : Nat} {k : Int} {zs : List Int} (h : MarkY w wr lo hi (some ⟨g, 0, none⟩) n k zs i) (hn : 0 < n) : MarkY w (wr.setCell ⟨g, i, none⟩ (.int .u8 ((k + (i : Int)) % 256))) lo hi (some ⟨g, 0, none⟩) n k zs (i + 1) := by
  obtain ⟨g', e, h1, h2, h3⟩ := h.1 hn
  cases e
  refine ⟨fun _ => ⟨g, rfl, h1, h2, fun j hj => ⟨?_, fun o => by rw [World.frozen?_setCell]; exact (h3 j hj).2 o⟩⟩, h.2.setCell h1 h2 _⟩
  rw [cell_set (by rw [(h3 j hj).1]; rfl)]
  by_cases e : j = i
  · subst e; simp
  · rw [if_neg e, (h3 j hj).1]
    by_cases l : j < i
    · rw [if_pos l, if_pos (by omega)]
    · rw [if_neg l, if_neg (by omega)]

set_option maxHeartbeats 800000 in
theorem markY_any (A : Option Addr) (n cap lo hi : Nat) (k : Int) (zs : List Int) (w : World) (hn : zs.length = n) (hm : n ≤ 1048576) (hk0 : 0 ≤ k) (hk1 : k ≤ 1099511627776) (h : BV w lo hi A zs) :
    Calls Tryd.prog 28 #[.slice A n cap, .int .i64 k] w fun e w' => e = .returned (.int .i64 (k + n)) ∧ BV w' lo hi A (mkY k n) ∧ Turns lo hi w w' := by
  have Hn := Lib.hid hn
  clear hn
  have HS : Hid (MarkY w w lo hi A n k zs 0) := ⟨fun hp => by
    obtain ⟨g, e, h1, h2, h3⟩ := h (by have := Hn.out; omega)
    exact ⟨g, e, h1, h2, fun i hi => by simpa using h3 i (by have := Hn.out; omega)⟩, Turns.of_below (Below.refl _ _)⟩
  clear h
  go_enter Tryd.func28, Tryd.ntmps28
  go_wp2
  go_loopw [1, 5] (fun t i wr => ∃ j : Nat, j ≤ n ∧ i = .int .i64 j ∧ t = .int .i64 (k + j) ∧ MarkY w wr lo hi A n k zs j) (fun _ i _ => n - (intOf i).toNat)
  case atStart => exact ⟨0, Nat.zero_le _, rfl, by simp, HS.out⟩
  case round =>
    obtain ⟨j, hj, rfl, rfl, hr⟩ := hrel
    clear HS
    by_cases hlt : j < n
    · obtain ⟨g, rfl, h1, h2, h3⟩ := hr.1 (by omega)
      obtain ⟨c0, c4⟩ := h3 j hlt
      simp only [Nat.lt_irrefl, if_false] at c0
      generalize zs.getD j 0 = s at c0
      have hu := wrap_u8 (k + (j : Int))
      have Hr := Lib.hid (hr.step (by omega))
      rw [← hu] at Hr
      clear hr h3 hu
      go_wp2
      go_roundw
      case rel => exact ⟨j + 1, by omega, by go_num, by go_num, Hr.out⟩
      case measure => simp [intOf]; omega
    · have Hr := Lib.hid hr
      clear hr
      obtain rfl : j = n := by omega
      go_wp2
      go_ret
      refine ⟨rfl, fun hp => ?_, Hr.out.2⟩
      rw [mkY_len] at hp
      obtain ⟨g, e, h1, h2, h3⟩ := Hr.out.1 hp
      refine ⟨g, e, h1, h2, fun i hi => ?_⟩
      rw [mkY_len] at hi
      have := h3 i hi
      simp only [if_pos hi] at this
      rw [mkY_at _ _ _ hi]
      exact this


end Go.Proofs.YtcgmeindiaaokaaDoor.By
