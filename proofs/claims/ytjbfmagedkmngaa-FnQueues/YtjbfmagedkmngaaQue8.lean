/- The program's own form of a queue in memory (an array of slots and four numbers in one block), and the copy of a slice of slots. -/
import Derived.Test.YtjbfmagedkmngaaQue7
import Derived.Deep.WholeRow
import Derived.Lib.SliceRun
import Derived.Deep.RegionHeld3
namespace Go.Proofs.Ytjbfmagedkmngaa.Que
open Go.RowKit Go.Deep Base

def lkF (ss : List Sl) (f l r c : Int) (o : Nat) : Value :=
  if o < 240 then (sl ss (o / 4)).at (o % 4) else if o = 240 then .int .i64 f else if o = 241 then .int .i64 l else if o = 242 then .int .i64 r else .int .i64 c

def lkA (ss : List Sl) (f l r c : Int) : Array Value := (Array.range 244).map (lkF ss f l r c)
theorem lkA_size (ss : List Sl) (f l r c : Int) : (lkA ss f l r c).size = 244 := by simp [lkA]
theorem lkA_at (ss : List Sl) (f l r c : Int) {o : Nat} (h : o < 244) : (lkA ss f l r c)[o]? = some (lkF ss f l r c o) := by simp [lkA, h]
theorem lkA_past (ss : List Sl) (f l r c : Int) {o : Nat} (h : ¬ o < 244) : (lkA ss f l r c)[o]? = none := by simp [lkA]; omega

/-- The program's form of a queue lies in block b. -/
def Lk (w : World) (b : Nat) (ss : List Sl) (f l r c : Int) : Prop := w.heap[b]? = some (.cells (lkA ss f l r c) 54 (0, 0))

theorem Lk.row {w : World} {b : Nat} {ss : List Sl} {f l r c : Int} (h : Lk w b ss f l r c) : w.rowIs b 54 244 (lkF ss f l r c) := ⟨_, h, lkA_size _ _ _ _ _, fun _ hi => lkA_at _ _ _ _ _ hi⟩
theorem lk_of_row {w : World} {b : Nat} {ss : List Sl} {f l r c : Int} (h : w.rowIs b 54 244 (lkF ss f l r c)) : Lk w b ss f l r c := by
  obtain ⟨cs, hb, hn, hc⟩ := h
  unfold Lk
  rw [hb]
  have : cs = lkA ss f l r c := by
    apply Array.ext_getElem?
    intro i
    by_cases hi : i < 244
    · rw [hc i hi, lkA_at _ _ _ _ _ hi]
    · rw [lkA_past _ _ _ _ _ hi, Array.getElem?_eq_none (by omega)]
  rw [this]
theorem Lk.of_block {w w' : World} {b : Nat} {ss : List Sl} {f l r c : Int} (h : Lk w b ss f l r c) (e : w'.heap[b]? = w.heap[b]?) : Lk w' b ss f l r c := e.trans h
theorem Lk.lt {w : World} {b : Nat} {ss : List Sl} {f l r c : Int} (h : Lk w b ss f l r c) : b < w.heap.size := h.row.lt
theorem Lk.alloc {w : World} {b : Nat} {ss : List Sl} {f l r c : Int} (h : Lk w b ss f l r c) (o : Obj) : Lk (w.alloc o) b ss f l r c := h.of_block (Below.heap_alloc w o b h.lt)
theorem Lk.drew {w : World} {b : Nat} {ss : List Sl} {f l r c : Int} (h : Lk w b ss f l r c) : Lk w.drew b ss f l r c := h
theorem Lk.below {w w' : World} {b : Nat} {ss : List Sl} {f l r c : Int} (h : Lk w b ss f l r c) (hb : Below w.heap.size w w') : Lk w' b ss f l r c := h.of_block (hb.block b h.lt)

theorem Lk.nums {w : World} {b : Nat} {ss : List Sl} {f l r c : Int} (h : Lk w b ss f l r c) :
    w.cell? ⟨b, 240, none⟩ = some (.int .i64 f) ∧ w.cell? ⟨b, 241, none⟩ = some (.int .i64 l) ∧ w.cell? ⟨b, 242, none⟩ = some (.int .i64 r) ∧ w.cell? ⟨b, 243, none⟩ = some (.int .i64 c) ∧ ∀ j, w.frozen? ⟨b, j, none⟩ = false :=
  ⟨h.row.cell (by omega), h.row.cell (by omega), h.row.cell (by omega), h.row.cell (by omega), fun j => h.row.frozen j⟩

theorem Lk.slot {w : World} {b : Nat} {ss : List Sl} {f l r c : Int} (h : Lk w b ss f l r c) {i : Nat} (hi : i < 60) :
    w.cell? ⟨b, i * 4, none⟩ = some (.int .i64 (sl ss i).id) ∧ w.cell? ⟨b, i * 4 + 1, none⟩ = some (.int .i64 (sl ss i).prev) ∧ w.cell? ⟨b, i * 4 + 2, none⟩ = some (.int .i64 (sl ss i).next) ∧ w.cell? ⟨b, i * 4 + 3, none⟩ = some (.bool (sl ss i).used) := by
  have hc : ∀ j, j < 4 → w.cell? ⟨b, i * 4 + j, none⟩ = some ((sl ss i).at j) := fun j hj => by
    rw [h.row.cell (i := i * 4 + j) (by omega), lkF, if_pos (by omega), show (i * 4 + j) / 4 = i from by omega, show (i * 4 + j) % 4 = j from by omega]
  exact ⟨hc 0 (by omega), hc 1 (by omega), hc 2 (by omega), hc 3 (by omega)⟩

theorem Lk.rd {w : World} {b : Nat} {ss : List Sl} {f l r c : Int} (h : Lk w b ss f l r c) (hn : ss.length = 60) : Rd w b ss := by
  intro i hi
  obtain ⟨h0, h1, h2, h3⟩ := h.slot (i := i) (by omega)
  exact ⟨h0, h1, h2, h3, h.nums.2.2.2.2⟩

/-- A store of field j of slot i. -/
theorem Lk.setF {w : World} {b : Nat} {ss : List Sl} {f l r c : Int} (h : Lk w b ss f l r c) {i j : Nat} (hi : i < 60) (hj : j < 4) (hn : ss.length = 60) {s : Sl} {v : Value} (hv : s.at j = v) (hs : ∀ k, k < 4 → k ≠ j → s.at k = (sl ss i).at k) :
    Lk (w.setCell ⟨b, i * 4 + j, none⟩ v) b (ss.set i s) f l r c := by
  refine lk_of_row ((h.row.set (i * 4 + j) v).congr fun o ho => ?_)
  by_cases e : o = i * 4 + j
  · subst e
    rw [if_pos rfl, lkF, if_pos (by omega), show (i * 4 + j) / 4 = i from by omega, show (i * 4 + j) % 4 = j from by omega, sl_set _ _ _ _ (by omega), if_pos rfl, hv]
  · rw [if_neg e]
    unfold lkF
    by_cases ho' : o < 240
    · rw [if_pos ho', if_pos ho', sl_set _ _ _ _ (by omega)]
      by_cases ei : o / 4 = i
      · rw [if_pos ei, ei]
        exact (hs (o % 4) (by omega) (by omega)).symm
      · rw [if_neg ei]
    · rw [if_neg ho', if_neg ho']

theorem Lk.setN {w : World} {b : Nat} {ss : List Sl} {f l r c : Int} (h : Lk w b ss f l r c) (f' l' r' c' : Int) (o : Nat) (ho : 240 ≤ o) (v : Value) (hv : lkF ss f' l' r' c' o = v) (hs : ∀ k, 240 ≤ k → k < 244 → k ≠ o → lkF ss f' l' r' c' k = lkF ss f l r c k) :
    Lk (w.setCell ⟨b, o, none⟩ v) b ss f' l' r' c' := by
  refine lk_of_row ((h.row.set o v).congr fun k hk => ?_)
  by_cases e : k = o
  · subst e; rw [if_pos rfl, hv]
  · rw [if_neg e]
    by_cases hk' : k < 240
    · unfold lkF; rw [if_pos hk', if_pos hk']
    · exact (hs k (by omega) hk e).symm

theorem Lk.setFirst {w : World} {b : Nat} {ss : List Sl} {f l r c : Int} (h : Lk w b ss f l r c) (x : Int) : Lk (w.setCell ⟨b, 240, none⟩ (.int .i64 x)) b ss x l r c :=
  h.setN x l r c 240 (by omega) _ rfl fun k h1 h2 h3 => by
    have : k = 241 ∨ k = 242 ∨ k = 243 := by omega
    rcases this with rfl | rfl | rfl <;> rfl
theorem Lk.setLast {w : World} {b : Nat} {ss : List Sl} {f l r c : Int} (h : Lk w b ss f l r c) (x : Int) : Lk (w.setCell ⟨b, 241, none⟩ (.int .i64 x)) b ss f x r c :=
  h.setN f x r c 241 (by omega) _ rfl fun k h1 h2 h3 => by
    have : k = 240 ∨ k = 242 ∨ k = 243 := by omega
    rcases this with rfl | rfl | rfl <;> rfl
theorem Lk.setFree {w : World} {b : Nat} {ss : List Sl} {f l r c : Int} (h : Lk w b ss f l r c) (x : Int) : Lk (w.setCell ⟨b, 242, none⟩ (.int .i64 x)) b ss f l x c :=
  h.setN f l x c 242 (by omega) _ rfl fun k h1 h2 h3 => by
    have : k = 240 ∨ k = 241 ∨ k = 243 := by omega
    rcases this with rfl | rfl | rfl <;> rfl
theorem Lk.setCount {w : World} {b : Nat} {ss : List Sl} {f l r c : Int} (h : Lk w b ss f l r c) (x : Int) : Lk (w.setCell ⟨b, 243, none⟩ (.int .i64 x)) b ss f l r x :=
  h.setN f l r x 243 (by omega) _ rfl fun k h1 h2 h3 => by
    have : k = 240 ∨ k = 241 ∨ k = 242 := by omega
    rcases this with rfl | rfl | rfl <;> rfl

theorem oldcell {w w1 : World} {o : Obj} (hb : Below (w.alloc o).drew.heap.size (w.alloc o).drew w1) : ∀ b j, b < w.heap.size → w1.cell? ⟨b, j, none⟩ = w.cell? ⟨b, j, none⟩ := fun b j h =>
  (hb.cell (p := ⟨b, j, none⟩) (by show b < (w.alloc o).heap.size; simp; omega)).trans (World.cell?_alloc_lt w o ⟨b, j, none⟩ h)

theorem newbox {w w1 : World} {v0 v1 v2 v3 v4 : Value} {t : TypeId} (hb : Below (w.alloc (.cells #[v0, v1, v2, v3, v4] t)).drew.heap.size (w.alloc (.cells #[v0, v1, v2, v3, v4] t)).drew w1) :
    w1.cell? ⟨w.heap.size, 0, none⟩ = some v0 ∧ w1.cell? ⟨w.heap.size, 1, none⟩ = some v1 ∧ w1.cell? ⟨w.heap.size, 2, none⟩ = some v2 ∧ w1.cell? ⟨w.heap.size, 3, none⟩ = some v3 ∧ w1.cell? ⟨w.heap.size, 4, none⟩ = some v4 ∧ ∀ j, w1.frozen? ⟨w.heap.size, j, none⟩ = false := by
  have e : w1.heap[w.heap.size]? = some (.cells #[v0, v1, v2, v3, v4] t (0, 0)) := (hb.block w.heap.size (by show _ < (w.alloc _).heap.size; simp)).trans (heap_alloc_new w _)
  have hc : ∀ o, w1.cell? ⟨w.heap.size, o, none⟩ = #[v0, v1, v2, v3, v4][o]? := fun o => cell_of_row _ _ o _ _ (0, 0) e
  refine ⟨?_, ?_, ?_, ?_, ?_, fun j => by simp [World.frozen?, e]⟩ <;> (rw [hc]; rfl)

theorem other5 {w : World} {b g j o0 o1 o2 o3 o4 : Nat} {u0 u1 u2 u3 u4 : Value} (h : b ≠ g) :
    (((((w.setCell ⟨g, o0, none⟩ u0).setCell ⟨g, o1, none⟩ u1).setCell ⟨g, o2, none⟩ u2).setCell ⟨g, o3, none⟩ u3).setCell ⟨g, o4, none⟩ u4).cell? ⟨b, j, none⟩ = w.cell? ⟨b, j, none⟩ := by
  rw [other_cell _ () h, other_cell _ () h, other_cell _ () h, other_cell _ () h, other_cell _ () h]

/-- What a call that hands back a new slice of slots leaves. -/
def NewS (w : World) (n : Nat) (ss : List Sl) (e : Ending) (w' : World) : Prop :=
  ∃ A cap, e = .returned (.slice A n cap) ∧ SlV w' w.heap.size w'.heap.size A ss ∧ Below w.heap.size w w'

theorem news_rd {w : World} {g : Nat} {ss : List Sl} (h : Rd w g ss) : ∀ j u, (cellsL ss)[j]? = some u → w.cell? ((⟨g, 0, none⟩ : Addr).add j) = some u := by
  intro j u hj
  have hlt : j < (cellsL ss).length := (List.getElem?_eq_some_iff.1 hj).1
  rw [cellsL_len] at hlt
  have ea : (⟨g, 0, none⟩ : Addr).add j = ⟨g, j, none⟩ := by
    unfold Addr.add; split
    · next h => subst h; rfl
    · simp
  rw [ea]
  have hi : j / 4 < ss.length := by omega
  have e := cellsL_at ss (j / 4) (j % 4) hi (by omega)
  rw [show j / 4 * 4 + j % 4 = j from by omega, hj] at e
  obtain ⟨h0, h1, h2, h3, _⟩ := h (j / 4) hi
  have hm : j % 4 = 0 ∨ j % 4 = 1 ∨ j % 4 = 2 ∨ j % 4 = 3 := by omega
  rcases hm with hm | hm | hm | hm <;> rw [hm] at e <;> simp [Sl.cells] at e <;> subst e
  · rw [show j = j / 4 * 4 from by omega]; simpa [List.getD_eq_getElem?_getD] using h0
  · rw [show j = j / 4 * 4 + 1 from by omega]; simpa [List.getD_eq_getElem?_getD, show (j / 4 * 4 + 1) / 4 = j / 4 from by omega] using h1
  · rw [show j = j / 4 * 4 + 2 from by omega]; simpa [List.getD_eq_getElem?_getD, show (j / 4 * 4 + 2) / 4 = j / 4 from by omega] using h2
  · rw [show j = j / 4 * 4 + 3 from by omega]; simpa [List.getD_eq_getElem?_getD, show (j / 4 * 4 + 3) / 4 = j / 4 from by omega] using h3

theorem cells_one (ss : List Sl) : ∀ u ∈ cellsL ss, u.oneCell' = true := by
  induction ss with
  | nil => simp [cellsL]
  | cons s r ih =>
    intro u hu
    simp only [cellsL, Sl.cells, List.mem_append] at hu
    rcases hu with hu | hu
    · simp at hu; rcases hu with rfl | rfl | rfl | rfl <;> rfl
    · exact ih u hu

set_option maxHeartbeats 400000 in
theorem clone_any (g n cap : Nat) (ss : List Sl) (w : World) (hn : ss.length = n) (hm : n ≤ 1048576) (h : Rd w g ss) (hg : g < w.heap.size) :
    Calls Try.prog 60 #[.slice (some ⟨g, 0, none⟩) n cap] w (NewS w n ss) := by
  have Hn := Lib.hid hn
  clear hn
  have HI := Lib.hid h
  clear h
  obtain ⟨i0, hi0, hz0, hz1, hz2⟩ := info_parts infoSlot
  have Hi0 := Lib.hid hi0
  have Hz0 := Lib.hid hz0
  have Hz1 := Lib.hid hz1
  have Hz2 := Lib.hid hz2
  clear hi0 hz0 hz1 hz2
  have hnil := fun W => Lib.run_eql_slice_nil (P := Try.prog) W 24 51 (some ⟨g, 0, none⟩) n cap 0 0 Try.underlying24
  go_enter Try.func60, Try.ntmps60
  go_wp2_with (at_builtin; refine wpList_append_own _ rfl _ _ 24 rfl w.heap.size 51 i0 _ 4 32 Try.underlying24 Hi0.out Hz0.out Hz1.out Hz2.out rfl (by decide) _ 0 [] rfl ?c0h ⟨g, 0, none⟩ n cap (cellsL ss) rfl ?c6h ?c1h ?c2h ?c3h ?c4h ?c5h ?_)
  case c0h =>
    have h := World.ownsRow_lit (base := w.heap.size) (e := 51) (size := 4) w #[] 0 (Nat.le_refl _) (by simp) (by simp)
    simp at h
    exact h
  case c6h => rw [cellsL_len, Hn.out]
  case c1h => exact news_rd (HI.out.of_block (Below.heap_alloc w _ g hg))
  case c2h => exact cells_one ss
  case c3h => unfold maxLen; omega
  case c4h => omega
  case c5h => simp
  · intro v' w1 hown hgr _
    obtain ⟨A', cap', rfl⟩ := owns_form hown
    have Ho := Lib.hid hown
    have Hg := Lib.hid hgr
    clear hown hgr
    go_wp2
    go_ret
    refine ⟨A', cap', rfl, slv_owns Hn.out Ho.out, (bel_alloc w _).grown Hg.out (by simp) (fun k e => ?_)⟩
    simp [Value.ownBlock] at e
    omega

theorem clone_nil (w : World) : Calls Try.prog 60 #[.slice none 0 0] w fun e w' => e = .returned (.slice none 0 0) ∧ w = w' := by
  have hnil := fun W => Lib.run_eql_slice_nil (P := Try.prog) W 24 51 none 0 0 0 0 Try.underlying24
  go_enter Try.func60, Try.ntmps60
  go_wp2
  go_ret
  exact ⟨rfl, rfl⟩

set_option maxHeartbeats 1000000 in
theorem queue_any (b : Nat) (f l r c : Int) (ss : List Sl) (w : World) (hn : ss.length = 60) (h : Lk w b ss f l r c) :
    Calls Try.prog 43 #[.pointer (some ⟨b, 0, none⟩)] w (NewQ w 60 ss f l r c) := by
  obtain ⟨n0, n1, n2, n3, _⟩ := h.nums
  have hlt := h.lt
  have Hn := Lib.hid hn
  have HI := Lib.hid h
  clear h hn
  have HG : Hid (b ≠ w.heap.size) := Nat.ne_of_lt hlt
  go_enter Try.func43, Try.ntmps43
  go_wp2_with fail
  go_region_held3 (fun w' => w'.cell? ⟨b, 240, none⟩ = some (.int .i64 f) ∧ w'.cell? ⟨b, 241, none⟩ = some (.int .i64 l) ∧ w'.cell? ⟨b, 242, none⟩ = some (.int .i64 r) ∧ w'.cell? ⟨b, 243, none⟩ = some (.int .i64 c))
    (first
      | with_reducible exact ⟨(Hc.out _ _ hlt).trans n0, (Hc.out _ _ hlt).trans n1, (Hc.out _ _ hlt).trans n2, (Hc.out _ _ hlt).trans n3⟩
      | with_reducible exact ⟨(other5 HG.out).trans ((Hc.out _ _ hlt).trans n0), (other5 HG.out).trans ((Hc.out _ _ hlt).trans n1), (other5 HG.out).trans ((Hc.out _ _ hlt).trans n2), (other5 HG.out).trans ((Hc.out _ _ hlt).trans n3)⟩
      | go_keep)
    ((go_at_call 60; refine (clone_any b 60 _ ss _ Hn.out (by omega) ((HI.out.alloc _).drew.rd Hn.out) (HI.out.alloc _).drew.lt).mono ?_; rintro e w1 ⟨A', cap', rfl, hv, hb⟩; have Hc := Lib.hid (oldcell hb); obtain ⟨d0, d1, d2, d3, d4, df⟩ := newbox hb; have Hb := Lib.hid hb; have Hv := Lib.hid hv; clear hb hv))
  go_wp2
  refine bodyPost_ret (v := .agg #[.slice A' 60 cap', .int .i64 f, .int .i64 l, .int .i64 r, .int .i64 c]) (by simp [results, Try.results43, go_sem, d0, d1, d2, d3, d4]) rfl ⟨A', cap', rfl, ?_, ?_⟩
  · have hv := Hv.out
    have hz : (w.alloc (.cells #[.slice none 0 0, .int .i64 0, .int .i64 0, .int .i64 0, .int .i64 0] 26)).drew.heap.size = w.heap.size + 1 := by show (w.alloc _).heap.size = _; simp
    rw [hz] at hv
    refine SlV.wide (lo := w.heap.size + 1) (hi := w1.heap.size) ?_ (by omega) (by simp [World.setCell])
    iterate 5 refine SlV.setCell ?_ (by simp <;> omega) _
    exact hv
  · iterate 5 refine Below.setCell ?_ (by simp <;> omega) _
    exact (bel_alloc w _).trans ((bel_of_drew Hb.out).mono (by simp))

theorem zero_links : Try.zeroCells54 = lkA (List.replicate 60 zSl) 0 0 0 0 := by kernel_rfl
theorem info_links : (Try.prog.info? 54).map (·.size) = some 244 := by kernel_rfl
end Go.Proofs.Ytjbfmagedkmngaa.Que
