/- An item added to the program's tree. The program's Schedule. -/
import Derived.Test.YtpjelojmkmednaaLh8
namespace Go.Proofs.Ytpjelojmkmednaa.Hp
open Go.RowKit Go.Deep Base

/-- One item more, moved up. -/
def addD (ds : List Du) (d : Du) : List Du := upD ds.length (ds ++ [d]) ds.length
theorem addD_len (ds : List Du) (d : Du) : (addD ds d).length = ds.length + 1 := by unfold addD; rw [upD_len]; simp

theorem owns_of {w : World} {lo hi n cap : Nat} {A : Option Addr} {ds : List Du} (hn : ds.length = n) (hs : Sh w lo hi A n cap) (h : DV w lo hi A ds) : w.ownsRow lo 80 3 (.slice A n cap) n (cellsL ds) := by
  refine ⟨by rw [cellsL_len, hn], ?_⟩
  rcases hs with ⟨rfl, rfl, rfl⟩ | ⟨g, cur, rfl, h1, h2, h3, h4, h5, h6⟩
  · exact .inl ⟨rfl, rfl⟩
  · refine .inr ⟨g, cap, cur, rfl, h1, h3, h4, h5, h6, ?_⟩
    apply List.ext_getElem?
    intro j
    rw [List.getElem?_take]
    by_cases hj : j < n * 3
    · rw [if_pos hj]
      obtain ⟨g', e, _, _, hr⟩ := h (by omega)
      injection e with e
      injection e with e _ _
      subst e
      have hl : j < (cellsL ds).length := by rw [cellsL_len, hn]; exact hj
      have hc := news_rd hr j _ (List.getElem?_eq_getElem hl)
      have ea : (⟨g, 0, none⟩ : Addr).add j = ⟨g, j, none⟩ := by
        unfold Addr.add; split
        · next h => subst h; rfl
        · simp
      rw [ea, cell_of_row w g j cur _ (0, 0) h3] at hc
      rw [List.getElem?_eq_getElem hl, ← hc]
      simp
    · rw [if_neg hj, List.getElem?_eq_none (by rw [cellsL_len, hn]; omega)]

set_option maxRecDepth 100000 in
set_option maxHeartbeats 2000000 in
theorem add_any (b n cap lo hi : Nat) (A : Option Addr) (ds : List Du) (dat dseq did : Int) (w : World) (hn : ds.length = n) (hm : n + 1 ≤ 1048576) (ht : Tr w b A n cap) (h : DV w lo hi A ds) (hsh : Sh w lo hi A n cap) (hlb : hi ≤ b) (hlob : lo ≤ b) :
    Calls Try.prog 90 #[.pointer (some ⟨b, 0, none⟩), .agg #[.int .i64 dat, .int .i64 dseq, .int .i64 did]] w fun e w' => e = .returned (.tuple #[]) ∧ ∃ g' cap', Tr w' b (some ⟨g', 0, none⟩) (n + 1) cap' ∧ lo ≤ g' ∧ g' < w'.heap.size ∧ Rd w' g' (addD ds ⟨dat, dseq, did⟩) ∧ Below lo w w' := by
  have Hn := Lib.hid hn
  have HT := Lib.hid ht
  have HO := Lib.hid (owns_of hn hsh h)
  have Hne : Hid (some b ≠ (Value.slice A n cap).ownBlock) := by
    rcases hsh with ⟨rfl, _, _⟩ | ⟨g, _, rfl, _, h2, _⟩
    · exact fun e => by cases e
    · intro e
      injection e with e
      have e' : b = g := e
      omega
  have hbl := ht.lt
  clear hn h ht hsh
  obtain ⟨i0, hi0, hz0, hz1, hz2⟩ := info_parts infoDue
  have Hi0 := Lib.hid hi0
  have Hz0 := Lib.hid hz0
  have Hz1 := Lib.hid hz1
  have Hz2 := Lib.hid hz2
  clear hi0 hz0 hz1 hz2
  go_enter Try.func90, Try.ntmps90
  go_wp2_with fail
  obtain ⟨W1, hW1⟩ : ∃ W1, w.alloc (.cells #[.int .i64 dat, .int .i64 dseq, .int .i64 did] 80) = W1 := ⟨_, rfl⟩
  have B1 : Hid (Below w.heap.size w W1) := by rw [← hW1]; exact bel_alloc _ _
  have K1 : Hid (W1.heap[w.heap.size]? = some (.cells #[.int .i64 dat, .int .i64 dseq, .int .i64 did] 80 (0, 0))) := by rw [← hW1]; exact heap_alloc_new w _
  have O1 : Hid (W1.ownsRow lo 80 3 (.slice A n cap) n (cellsL ds)) := by rw [← hW1]; exact HO.out.alloc _
  have T1 := Lib.hid (HT.out.below B1.out)
  have z1 : w.heap.size < W1.heap.size := by rw [← hW1]; simp
  rw [hW1]
  clear hW1
  obtain ⟨t0, t1, tf⟩ := T1.out.cells
  have hbl1 := T1.out.lt
  have hc : ∀ o, W1.cell? ⟨w.heap.size, o, none⟩ = (#[.int .i64 dat, .int .i64 dseq, .int .i64 did] : Array Value)[o]? := fun o => cell_of_row _ _ o _ _ (0, 0) K1.out
  have k0 : W1.cell? ⟨w.heap.size, 0, none⟩ = some (.int .i64 dat) := hc 0
  have k1 : W1.cell? ⟨w.heap.size, 1, none⟩ = some (.int .i64 dseq) := hc 1
  have k2 : W1.cell? ⟨w.heap.size, 2, none⟩ = some (.int .i64 did) := hc 2
  clear hc
  have HF : Hid (∀ o w3, (W1.alloc o).drew.grownBy w3 (Value.slice A n cap).ownBlock → w3.heap[b]? = W1.heap[b]?) := fun o w3 hg =>
    (hg.block b (by show b < (W1.alloc o).heap.size; simp; omega) Hne.out).trans (Below.heap_alloc W1 o b hbl1)
  go_region_law
    ((refine step_append_lies _ (by rfl) _ _ _ (by rfl) lo 80 i0 _ 3 24 Try.underlying27 Hi0.out Hz0.out Hz1.out Hz2.out rfl (by omega) (.slice A n cap) n _ (by rfl) ((O1.out.alloc _).drew)
        ⟨W1.heap.size, 0, none⟩ 1 1 [.int .i64 dat, .int .i64 dseq, .int .i64 did] (by rfl) (by rfl) (new_three_at (w := W1) rfl _ _ _ _) (by simp [Value.oneCell'])
        (by omega) (by unfold maxLen; omega) (by omega) (by simp; omega) (W1.heap.size + 1) (by simp) ?_; intro gg cap' w3 hown hgrow hat hlt'; have yq := (World.cell?_of_block (w := W1) (a := ⟨b, 0, none⟩) (HF.out _ _ hgrow)).trans t0; have yf := (World.frozen?_of_block (w := W1) (a := ⟨b, 0, none⟩) (HF.out _ _ hgrow)).trans (tf 0)))
  all_goals
    have hgb : b ≠ gg := by
      rcases hat with e | e
      · exact fun e' => Hne.out (by rw [e, e'])
      · omega
    have hgl : lo ≤ gg := (hown.lt gg rfl).1
    have hl1 : (ds ++ [(⟨dat, dseq, did⟩ : Du)]).length = n + 1 := by rw [List.length_append, Hn.out]; rfl
    have T4 : Hid (Tr (w3.setCell ⟨b, 0, none⟩ (.slice (some ⟨gg, 0, none⟩) (n + 1) cap')) b (some ⟨gg, 0, none⟩) (n + 1) cap') := (T1.out.of_block (HF.out _ _ hgrow)).store _ _ _
    have R4 : Hid (Rd (w3.setCell ⟨b, 0, none⟩ (.slice (some ⟨gg, 0, none⟩) (n + 1) cap')) gg (ds ++ [⟨dat, dseq, did⟩])) := by
      have h1 := hown
      rw [← cellsL_one ⟨dat, dseq, did⟩, ← cellsL_append] at h1
      exact (rd_owns hl1 h1).of_block (heap_setCell_other w3 _ _ _ (by show gg ≠ b; omega))
    have B4 : Hid (Below lo w (w3.setCell ⟨b, 0, none⟩ (.slice (some ⟨gg, 0, none⟩) (n + 1) cap'))) :=
      ((((B1.out.mono (show lo ≤ w.heap.size by omega)).alloc (by omega) _).grown (grown_undrew hgrow) (by simp; omega) (fun j e => (O1.out.lt j e).1)).setCell (show lo ≤ b from hlob) _)
    have z4 : gg < (w3.setCell ⟨b, 0, none⟩ (.slice (some ⟨gg, 0, none⟩) (n + 1) cap')).heap.size := by simp [World.setCell]; exact hlt'
    have Hl1 := Lib.hid hl1
    clear hown hgrow hat hlt' yq yf t0 t1 tf k0 k1 k2 hl1
    obtain ⟨W4, hW4⟩ : ∃ W4, w3.setCell ⟨b, 0, none⟩ (.slice (some ⟨gg, 0, none⟩) (n + 1) cap') = W4 := ⟨_, rfl⟩
    rw [hW4] at T4 R4 B4 z4 ⊢
    clear hW4
    obtain ⟨t0, t1, tf⟩ := T4.out.cells
    go_wp2_with fail
    refine (moveUp_any b gg (n + 1) cap' n (ds ++ [⟨dat, dseq, did⟩]) W4 Hl1.out hm (by omega) T4.out R4.out z4 hgb).mono ?_
    rintro e w5 ⟨rfl, rd5, tn5⟩
    have R5 : Hid (Rd w5 gg (addD ds ⟨dat, dseq, did⟩)) := by unfold addD; rw [Hn.out]; exact rd5
    have T5 := Lib.hid (T4.out.tn tn5 hgb)
    have B5 := Lib.hid (B4.out.trans (tn5.toTurns.below hgl (by omega)))
    have z5 : gg < w5.heap.size := Nat.lt_of_lt_of_le z4 tn5.size
    clear rd5 tn5
    go_wp2
    go_end0
    exact ⟨rfl, gg, cap', T5.out, hgl, z5, R5.out, B5.out⟩
end Go.Proofs.Ytpjelojmkmednaa.Hp

namespace Go.Proofs.Ytpjelojmkmednaa.Hp
open Go.RowKit Go.Deep Base

/-- Schedule's answer: the items that it would hand back, may it, the items, the heap's Seq. -/
def schN (ds : List Du) (q id «at» : Int) : List Du := addD (canD ds q id) ⟨«at», q + 1, id⟩
def schB (ds : List Du) (q id «at» : Int) : Bool := okH ds q && Tick.isT «at» && Tick.inB id 1 1000000000 && okH (schN ds q id «at») (q + 1)
def schD (ds : List Du) (q id «at» : Int) : List Du := if schB ds q id «at» = true then schN ds q id «at» else ds
def schQ (ds : List Du) (q id «at» : Int) : Int := if schB ds q id «at» = true then q + 1 else q
theorem schD_no {ds : List Du} {q id a : Int} (h : schB ds q id a = false) : schD ds q id a = ds ∧ schQ ds q id a = q := by unfold schD schQ; rw [if_neg (by rw [h]; simp), if_neg (by rw [h]; simp)]; exact ⟨rfl, rfl⟩
theorem schD_yes {ds : List Du} {q id a : Int} (h : schB ds q id a = true) : schD ds q id a = schN ds q id a ∧ schQ ds q id a = q + 1 := by unfold schD schQ; rw [if_pos h, if_pos h]; exact ⟨rfl, rfl⟩
theorem schD_len (ds : List Du) (q id a : Int) (h : ds.length ≤ 1048576) : (schD ds q id a).length ≤ 1048576 := by
  unfold schD
  split
  · next e =>
    unfold schB at e
    simp only [Bool.and_eq_true] at e
    have := (okH_val e.2).few
    omega
  · exact h

theorem Blk2.put {w : World} {g : Nat} {v0 v1 : Value} (h : Blk2 w g v0 v1) (u0 u1 : Value) : Blk2 ((w.setCell ⟨g, 0, none⟩ u0).setCell ⟨g, 1, none⟩ u1) g u0 u1 := by
  have h1 := h.set0 u0
  unfold Blk2 at h1 ⊢
  simp [World.setCell, Array.getElem?_modify] at h1 ⊢
  obtain ⟨o, ho, he⟩ := h1
  rw [ho]
  simp [he]

set_option maxRecDepth 100000 in
set_option maxHeartbeats 2000000 in
theorem implSchedule_any (A : Option Addr) (n cap lo hi : Nat) (ds : List Du) (q id a : Int) (w : World) (hn : ds.length = n) (hm : n ≤ 1048576) (h : DV w lo hi A ds) (hs : hi ≤ w.heap.size) :
    Calls Try.prog 43 #[.agg #[.slice A n cap, .int .i64 q], .int .i64 id, .int .i64 a] w (HeapEnd w (schD ds q id a) (schQ ds q id a) (schB ds q id a)) := by
  have Hn := Lib.hid hn
  have HI := Lib.hid h
  clear hn h
  have HSame : Hid (∀ W, Below w.heap.size w W → Calls Try.prog 87 #[.agg #[.slice A n cap, .int .i64 q]] W (NewH W n ds q)) := fun W hW =>
    sameHeap_any A n cap lo hi ds q W Hn.out hm (HI.out.below hW hs) (by have := hW.size; omega)
  have HEnd : Hid (∀ W w5 A5 c5, Below w.heap.size w W → w.heap.size + 1 < W.heap.size → DV w5 W.heap.size w5.heap.size A5 ds → Below W.heap.size W w5 → schB ds q id a = false → HeapEnd w (schD ds q id a) (schQ ds q id a) (schB ds q id a) (.returned (.tuple #[.agg #[.slice A5 n c5, .int .i64 q], .bool false])) ((w5.setCell ⟨w.heap.size + 1, 0, none⟩ (.slice A5 n c5)).setCell ⟨w.heap.size + 1, 1, none⟩ (.int .i64 q))) := fun W w5 A5 c5 bW zW v5 b5 hno => by
    have := b5.size
    rw [(schD_no hno).1, (schD_no hno).2, hno]
    refine ⟨A5, c5, by rw [Hn.out], ?_, ?_⟩
    · refine DV.wide (lo := W.heap.size) (hi := w5.heap.size) ?_ (by omega) (by simp [World.setCell])
      iterate 2 refine DV.setCell ?_ (by show w.heap.size + 1 < W.heap.size; omega) _
      exact v5
    · iterate 2 refine Below.setCell ?_ (by show w.heap.size ≤ w.heap.size + 1; omega) _
      exact bel_trans bW b5
  go_enter Try.func43, Try.ntmps43
  go_wp2_with fail
  have hB0 : Below w.heap.size w ((w.alloc (.cells #[.slice A n cap, .int .i64 q] 29)).alloc (.cells #[.slice none 0 0, .int .i64 0] 29)) := ((Below.refl _ _).alloc (Nat.le_refl _) _).alloc (by simp) _
  refine (treeOf_sh A n cap lo hi ds q _ Hn.out hm (HI.out.below hB0 hs) (by simp; omega)).mono ?_
  rintro e w1 ⟨A1, c1, rfl, v1, b1, sh1⟩
  have X1 : Hid (Blk2 w1 w.heap.size (.slice A n cap) (.int .i64 q)) := Blk2.below (Blk2.alloc (heap_alloc_new w _) _) b1
  have Y1 : Hid (Blk2 w1 (w.heap.size + 1) (.slice none 0 0) (.int .i64 0)) := by
    have h := heap_alloc_new (w.alloc (.cells #[.slice A n cap, .int .i64 q] 29)) (.cells #[.slice none 0 0, .int .i64 0] 29)
    rw [World.size_alloc] at h
    exact (b1.block _ (by simp)).trans h
  have V1 : Hid (DV w1 (w.heap.size + 1 + 1) w1.heap.size A1 ds) := by have h := v1; simp only [World.size_alloc] at h; exact h
  have S1 : Hid (Sh w1 (w.heap.size + 1 + 1) w1.heap.size A1 n c1) := by have h := sh1; simp only [World.size_alloc] at h; exact h
  have B1 := Lib.hid (bel_trans hB0 b1)
  have z1 : w.heap.size + 1 < w1.heap.size := Y1.out.lt
  clear b1 v1 hB0 sh1
  cases hok : okH ds q
  · obtain ⟨x0, x1, xf⟩ := X1.out.cells
    have hxl := X1.out.lt
    have Hok := Lib.hid hok
    clear hok
    go_wp2_with fail
    obtain ⟨W3, hW3⟩ : ∃ W3, w1.alloc (.cells #[.slice A1 n c1, .func (.func 116) #[] #[]] 104) = W3 := ⟨_, rfl⟩
    have Y3 : Hid (Blk2 W3 (w.heap.size + 1) (.slice none 0 0) (.int .i64 0)) := by rw [← hW3]; exact Y1.out.alloc _
    have B3 : Hid (Below w.heap.size w W3) := by rw [← hW3]; exact bel_trans B1.out (bel_alloc w1 _)
    rw [hW3]
    clear hW3
    have Hno : Hid (schB ds q id a = false) := (by show schB ds q id a = false; unfold schB; rw [Hok.out]; rfl)
    refine (HSame.out W3 (B3).out).mono ?_
    rintro e w9 ⟨A9, c9, rfl, v9, b9⟩
    have Y9 := Lib.hid ((Y3).out.below b9)
    have V9 := Lib.hid v9
    have B9 := Lib.hid b9
    clear b9 v9
    obtain ⟨y0, y1, yf⟩ := Y9.out.cells
    have hyl := Y9.out.lt
    have hyw := (Y3).out.lt
    go_wp2
    exact bodyPost_ret (v := .tuple #[.agg #[.slice A9 (n) c9, .int .i64 q], .bool false]) (by simp [results, Try.results43, go_sem, y0, y1]) rfl (HEnd.out W3 w9 A9 c9 (B3).out hyw V9.out B9.out Hno.out)
  have Hok := Lib.hid hok
  have hfew := (okH_val hok).few
  rw [Hn.out] at hfew
  have Hfew := Lib.hid hfew
  have Hq : Hid (0 ≤ q ∧ q ≤ 1000000000) := Tick.isT_iff.1 (okH_val hok).tick
  clear hok hfew
  go_wp2_with fail
  obtain ⟨W3, hW3⟩ : ∃ W3, w1.alloc (.cells #[.slice A1 n c1, .func (.func 116) #[] #[]] 104) = W3 := ⟨_, rfl⟩
  have T3 : Hid (Tr W3 w1.heap.size A1 n c1) := by rw [← hW3]; exact heap_alloc_new w1 _
  have V3 : Hid (DV W3 (w.heap.size + 1 + 1) w1.heap.size A1 ds) := by rw [← hW3]; exact V1.out.below (bel_alloc w1 _) (Nat.le_refl _)
  have S3 : Hid (Sh W3 (w.heap.size + 1 + 1) w1.heap.size A1 n c1) := by rw [← hW3]; exact S1.out.below (bel_alloc w1 _) (Nat.le_refl _)
  have X3 : Hid (Blk2 W3 w.heap.size (.slice A n cap) (.int .i64 q)) := by rw [← hW3]; exact X1.out.alloc _
  have Y3 : Hid (Blk2 W3 (w.heap.size + 1) (.slice none 0 0) (.int .i64 0)) := by rw [← hW3]; exact Y1.out.alloc _
  have B3 : Hid (Below w.heap.size w W3) := by rw [← hW3]; exact bel_trans B1.out (bel_alloc w1 _)
  have z3 : w1.heap.size < W3.heap.size := by rw [← hW3]; simp
  rw [hW3]
  clear hW3 V1 B1 S1 X1 Y1
  refine (Tick.implTickOk_any a W3).mono ?_
  rintro e w4 ⟨rfl, b4⟩
  have B4 := Lib.hid (bel_trans B3.out b4)
  have T4 := Lib.hid (T3.out.below b4)
  have V4 := Lib.hid (V3.out.below b4 (by omega))
  have S4 := Lib.hid (S3.out.below b4 (by omega))
  have X4 := Lib.hid (X3.out.below b4)
  have Y4 := Lib.hid (Y3.out.below b4)
  have z4 : w1.heap.size < w4.heap.size := T4.out.lt
  clear b4 T3 V3 S3 X3 Y3 B3
  obtain ⟨x0, x1, xf⟩ := X4.out.cells
  have hxl := X4.out.lt
  cases hat : Tick.isT a
  · have Hat := Lib.hid hat
    clear hat
    go_wp2_with fail
    have Hno : Hid (schB ds q id a = false) := (by show schB ds q id a = false; unfold schB; rw [Hat.out]; simp)
    refine (HSame.out w4 (B4).out).mono ?_
    rintro e w9 ⟨A9, c9, rfl, v9, b9⟩
    have Y9 := Lib.hid ((Y4).out.below b9)
    have V9 := Lib.hid v9
    have B9 := Lib.hid b9
    clear b9 v9
    obtain ⟨y0, y1, yf⟩ := Y9.out.cells
    have hyl := Y9.out.lt
    have hyw := (Y4).out.lt
    go_wp2
    exact bodyPost_ret (v := .tuple #[.agg #[.slice A9 (n) c9, .int .i64 q], .bool false]) (by simp [results, Try.results43, go_sem, y0, y1]) rfl (HEnd.out w4 w9 A9 c9 (B4).out hyw V9.out B9.out Hno.out)
  have Hat := Lib.hid hat
  clear hat
  go_wp2_with fail
  refine (idOk_any id _).mono ?_
  rintro e w' ⟨rfl, rfl⟩
  cases hid2 : Tick.inB id 1 1000000000
  · have Hid2 := Lib.hid hid2
    clear hid2
    go_wp2_with fail
    have Hno : Hid (schB ds q id a = false) := (by show schB ds q id a = false; unfold schB; rw [Hid2.out]; simp)
    refine (HSame.out w4 (B4).out).mono ?_
    rintro e w9 ⟨A9, c9, rfl, v9, b9⟩
    have Y9 := Lib.hid ((Y4).out.below b9)
    have V9 := Lib.hid v9
    have B9 := Lib.hid b9
    clear b9 v9
    obtain ⟨y0, y1, yf⟩ := Y9.out.cells
    have hyl := Y9.out.lt
    have hyw := (Y4).out.lt
    go_wp2
    exact bodyPost_ret (v := .tuple #[.agg #[.slice A9 (n) c9, .int .i64 q], .bool false]) (by simp [results, Try.results43, go_sem, y0, y1]) rfl (HEnd.out w4 w9 A9 c9 (B4).out hyw V9.out B9.out Hno.out)
  have Hid2 := Lib.hid hid2
  clear hid2 x0 x1 xf hxl
  obtain ⟨t0, t1, tf⟩ := T4.out.cells
  go_wp2_with fail
  refine (indexOf_any A1 n c1 _ _ ds id w4 Hn.out hm V4.out (by omega)).mono ?_
  rintro e w5 ⟨rfl, b5⟩
  have B5 := Lib.hid (bel_trans B4.out b5)
  have T5 := Lib.hid (T4.out.below b5)
  have V5 := Lib.hid (V4.out.below b5 (by omega))
  have S5 := Lib.hid (S4.out.below b5 (by omega))
  have X5 := Lib.hid (X4.out.below b5)
  have Y5 := Lib.hid (Y4.out.below b5)
  have z5 : w1.heap.size < w5.heap.size := T5.out.lt
  clear b5 T4 V4 S4 X4 Y4 B4 t0 t1 tf
  have hq0 := Hq.out.1
  have hq1 := Hq.out.2
  by_cases hf : fndD ds id < 0
  · have hcd : canD ds q id = ds := canD_no (canB_none hf)
    have TT := T5
    have VV : Hid (DV w5 (w.heap.size + 1 + 1) w1.heap.size A1 (canD ds q id)) := by rw [hcd]; exact V5.out
    have SS := S5
    have XX := X5
    have YY := Y5
    have BB := B5
    have hes : Hid ((canD ds q id).length = n) := by rw [hcd]; exact Hn.out
    clear hcd T5 V5 S5 X5 Y5 B5
    obtain ⟨fv, hfv⟩ : ∃ fv, fndD ds id = fv := ⟨_, rfl⟩
    rw [hfv] at hf ⊢
    have hfn : ¬ 0 ≤ fv := by omega
    clear hfv
    -- the tree's box at w1.heap.size in world W holds es = canD ds q id, in a block of its own: facts TT VV SS, boxes XX YY, BB
    obtain ⟨x0, x1, xf⟩ := XX.out.cells
    have hxl := XX.out.lt
    go_wp2_with fail
    refine (add_any w1.heap.size n c1 (w.heap.size + 1 + 1) w1.heap.size A1 (canD ds q id) a (q + 1) id w5 (hes).out (by have := Hfew.out; omega) TT.out VV.out SS.out (Nat.le_refl _) (by omega)).mono ?_
    rintro e w7 ⟨rfl, g7, c7, t7, hlg7, hgs7, r7, b7⟩
    have T7 := Lib.hid t7
    have R7 := Lib.hid r7
    have B7 := Lib.hid (BB.out.trans (b7.mono (by omega)))
    have X7 := Lib.hid (XX.out.of_block (b7.block _ (by omega)))
    have Y7 := Lib.hid (YY.out.of_block (b7.block _ (by omega)))
    have z7 : (w5).heap.size ≤ w7.heap.size := b7.size
    clear t7 r7 b7 x0 x1 xf hxl
    have hl7 : Hid ((schN ds q id a).length = n + 1) := by show (schN ds q id a).length = n + 1; unfold schN; rw [addD_len, (hes).out]
    obtain ⟨t0, t1, tf⟩ := T7.out.cells
    obtain ⟨x0, x1, xf⟩ := X7.out.cells
    have hxl := X7.out.lt
    have htl := T7.out.lt
    go_wp2_with fail
    obtain ⟨W8, hW8⟩ : ∃ W8, w7.alloc (.cells #[.slice (some ⟨g7, 0, none⟩) (n + 1) c7, .int .i64 (q + 1)] 29) = W8 := ⟨_, rfl⟩
    have N8 : Hid (Blk2 W8 w7.heap.size (.slice (some ⟨g7, 0, none⟩) (n + 1) c7) (.int .i64 (q + 1))) := by rw [← hW8]; exact heap_alloc_new w7 _
    have b8 : Below w7.heap.size w7 W8 := by rw [← hW8]; exact bel_alloc _ _
    have z8 : w7.heap.size < W8.heap.size := by rw [← hW8]; simp
    rw [hW8]
    clear hW8 t0 t1 tf x0 x1 xf
    have V8 : Hid (DV W8 (w.heap.size + 1 + 1) w7.heap.size (some ⟨g7, 0, none⟩) (schN ds q id a)) := fun _ => ⟨g7, rfl, hlg7, hgs7, R7.out.of_block (b8.block g7 hgs7)⟩
    have B8 := Lib.hid (bel_trans B7.out b8)
    have X8 := Lib.hid (X7.out.below b8)
    have Y8 := Lib.hid (Y7.out.below b8)
    clear b8
    refine (implHeapOk_any (some ⟨g7, 0, none⟩) (n + 1) c7 _ _ (schN ds q id a) (q + 1) W8 hl7.out (by have := Hfew.out; omega) V8.out (by omega)).mono ?_
    rintro e w10 ⟨rfl, b10⟩
    have B10 := Lib.hid (bel_trans B8.out b10)
    have X10 := Lib.hid (X8.out.below b10)
    have Y10 := Lib.hid (Y8.out.below b10)
    have N10 := Lib.hid (N8.out.below b10)
    have V10 := Lib.hid (V8.out.below b10 (by omega))
    have z10 : W8.heap.size ≤ w10.heap.size := b10.size
    clear b10
    cases hnx : okH (schN ds q id a) (q + 1)
    · have Hnx := Lib.hid hnx
      clear hnx
      obtain ⟨x0, x1, xf⟩ := X10.out.cells
      go_wp2_with fail
      have Hno : Hid (schB ds q id a = false) := (by show schB ds q id a = false; unfold schB; rw [Hnx.out]; simp)
      refine (HSame.out w10 (B10).out).mono ?_
      rintro e w9 ⟨A9, c9, rfl, v9, b9⟩
      have Y9 := Lib.hid ((Y10).out.below b9)
      have V9 := Lib.hid v9
      have B9 := Lib.hid b9
      clear b9 v9
      obtain ⟨y0, y1, yf⟩ := Y9.out.cells
      have hyl := Y9.out.lt
      have hyw := (Y10).out.lt
      go_wp2
      exact bodyPost_ret (v := .tuple #[.agg #[.slice A9 ((n)) c9, .int .i64 q], .bool false]) (by simp [results, Try.results43, go_sem, y0, y1]) rfl (HEnd.out w10 w9 A9 c9 (B10).out hyw V9.out B9.out Hno.out)
    · have Hb : Hid (schB ds q id a = true) := by show schB ds q id a = true; unfold schB; rw [Hok.out, Hat.out, Hid2.out, hnx]; rfl
      clear hnx
      obtain ⟨p0, p1, pf⟩ := N10.out.cells
      obtain ⟨y0, y1, yf⟩ := Y10.out.cells
      have hyl := Y10.out.lt
      have hpl := N10.out.lt
      have hne1 : w7.heap.size ≠ w.heap.size + 1 := by omega
      go_wp2
      refine bodyPost_ret (v := .tuple #[.agg #[.slice (some ⟨g7, 0, none⟩) (n + 1) c7, .int .i64 (q + 1)], .bool true]) (by simp [results, Try.results43, go_sem, y0, y1]) rfl ?_
      rw [(schD_yes Hb.out).1, (schD_yes Hb.out).2, Hb.out]
      refine ⟨some ⟨g7, 0, none⟩, c7, by rw [hl7.out], ?_, ?_⟩
      · refine DV.wide (lo := w.heap.size + 1 + 1) (hi := w7.heap.size) ?_ (by omega) (by simp [World.setCell]; omega)
        iterate 2 refine DV.setCell ?_ (by show w.heap.size + 1 < w.heap.size + 1 + 1; omega) _
        exact V10.out
      · iterate 2 refine Below.setCell ?_ (by show w.heap.size ≤ w.heap.size + 1; omega) _
        exact B10.out
  obtain ⟨k, hfk, hkl⟩ := fndD_lt hf
  have Hcd := Lib.hid (canD_yes Hok.out hfk)
  rw [hfk]
  clear hf hfk
  rw [Hn.out] at hkl
  have hk0 : (0 : Int) ≤ (k : Int) := by omega
  obtain ⟨g, cur, rfl, hg1, hg2, hgc, hcap, hcm, hcs⟩ : ∃ g cur, A1 = some ⟨g, 0, none⟩ ∧ w.heap.size + 1 + 1 ≤ g ∧ g < w1.heap.size ∧ w5.heap[g]? = some (.cells cur 80 (0, 0)) ∧ n ≤ c1 ∧ c1 ≤ maxLen ∧ cur.size = c1 * 3 := by
    rcases S5.out with ⟨_, h0, _⟩ | h
    · omega
    · exact h
  have R5 : Hid (Rd w5 g ds) := by
    obtain ⟨g', e, _, _, h3⟩ := V5.out (by rw [Hn.out]; omega)
    injection e with e
    injection e with e _ _
    subst e
    exact h3
  have Hgc := Lib.hid hgc
  have Hcm := Lib.hid hcm
  have Hcs := Lib.hid hcs
  clear hgc hcm hcs
  obtain ⟨m, rfl⟩ : ∃ m, n = m + 1 := ⟨n - 1, by omega⟩
  go_wp2_with fail
  refine (remove_any w1.heap.size g m c1 k g (w1.heap.size + 1) ds w5 Hn.out hm hkl hcap T5.out R5.out (by omega) (by omega) (Nat.le_refl _) (by omega) (by omega) (by omega)).mono ?_
  rintro e w6 ⟨rfl, t6, r6, n6⟩
  have TT := Lib.hid t6
  have VV : Hid (DV w6 (w.heap.size + 1 + 1) w1.heap.size (some ⟨g, 0, none⟩) (canD ds q id)) := by rw [Hcd.out]; exact fun _ => ⟨g, rfl, hg1, hg2, r6⟩
  have SS : Hid (Sh w6 (w.heap.size + 1 + 1) w1.heap.size (some ⟨g, 0, none⟩) m c1) := by
    obtain ⟨cur', hc', hs'⟩ := n6.shape g _ _ Hgc.out
    exact .inr ⟨g, cur', rfl, hg1, hg2, hc', by omega, Hcm.out, by rw [hs']; exact Hcs.out⟩
  have XX := Lib.hid (X5.out.of_block (n6.block _ (by omega) (by omega)))
  have YY := Lib.hid (Y5.out.of_block (n6.block _ (by omega) (by omega)))
  have BB := Lib.hid (B5.out.trans (n6.toTurns.below (B := w.heap.size) (by omega) (by have := B5.out.size; omega)))
  have hes : Hid ((canD ds q id).length = m) := by rw [Hcd.out]; show (remD ds k).length = m; rw [remD_len, Hn.out]; rfl
  have z6 : w5.heap.size ≤ w6.heap.size := n6.size
  clear t6 r6 n6 T5 V5 S5 X5 Y5 B5
  -- the tree's box at w1.heap.size in world W holds es = canD ds q id, in a block of its own: facts TT VV SS, boxes XX YY, BB
  obtain ⟨x0, x1, xf⟩ := XX.out.cells
  have hxl := XX.out.lt
  go_wp2_with fail
  refine (add_any w1.heap.size m c1 (w.heap.size + 1 + 1) w1.heap.size (some ⟨g, 0, none⟩) (canD ds q id) a (q + 1) id w6 (hes).out (by have := Hfew.out; omega) TT.out VV.out SS.out (Nat.le_refl _) (by omega)).mono ?_
  rintro e w7 ⟨rfl, g7, c7, t7, hlg7, hgs7, r7, b7⟩
  have T7 := Lib.hid t7
  have R7 := Lib.hid r7
  have B7 := Lib.hid (BB.out.trans (b7.mono (by omega)))
  have X7 := Lib.hid (XX.out.of_block (b7.block _ (by omega)))
  have Y7 := Lib.hid (YY.out.of_block (b7.block _ (by omega)))
  have z7 : (w6).heap.size ≤ w7.heap.size := b7.size
  clear t7 r7 b7 x0 x1 xf hxl
  have hl7 : Hid ((schN ds q id a).length = m + 1) := by show (schN ds q id a).length = m + 1; unfold schN; rw [addD_len, (hes).out]
  obtain ⟨t0, t1, tf⟩ := T7.out.cells
  obtain ⟨x0, x1, xf⟩ := X7.out.cells
  have hxl := X7.out.lt
  have htl := T7.out.lt
  go_wp2_with fail
  obtain ⟨W8, hW8⟩ : ∃ W8, w7.alloc (.cells #[.slice (some ⟨g7, 0, none⟩) (m + 1) c7, .int .i64 (q + 1)] 29) = W8 := ⟨_, rfl⟩
  have N8 : Hid (Blk2 W8 w7.heap.size (.slice (some ⟨g7, 0, none⟩) (m + 1) c7) (.int .i64 (q + 1))) := by rw [← hW8]; exact heap_alloc_new w7 _
  have b8 : Below w7.heap.size w7 W8 := by rw [← hW8]; exact bel_alloc _ _
  have z8 : w7.heap.size < W8.heap.size := by rw [← hW8]; simp
  rw [hW8]
  clear hW8 t0 t1 tf x0 x1 xf
  have V8 : Hid (DV W8 (w.heap.size + 1 + 1) w7.heap.size (some ⟨g7, 0, none⟩) (schN ds q id a)) := fun _ => ⟨g7, rfl, hlg7, hgs7, R7.out.of_block (b8.block g7 hgs7)⟩
  have B8 := Lib.hid (bel_trans B7.out b8)
  have X8 := Lib.hid (X7.out.below b8)
  have Y8 := Lib.hid (Y7.out.below b8)
  clear b8
  refine (implHeapOk_any (some ⟨g7, 0, none⟩) (m + 1) c7 _ _ (schN ds q id a) (q + 1) W8 hl7.out (by have := Hfew.out; omega) V8.out (by omega)).mono ?_
  rintro e w10 ⟨rfl, b10⟩
  have B10 := Lib.hid (bel_trans B8.out b10)
  have X10 := Lib.hid (X8.out.below b10)
  have Y10 := Lib.hid (Y8.out.below b10)
  have N10 := Lib.hid (N8.out.below b10)
  have V10 := Lib.hid (V8.out.below b10 (by omega))
  have z10 : W8.heap.size ≤ w10.heap.size := b10.size
  clear b10
  cases hnx : okH (schN ds q id a) (q + 1)
  · have Hnx := Lib.hid hnx
    clear hnx
    obtain ⟨x0, x1, xf⟩ := X10.out.cells
    go_wp2_with fail
    have Hno : Hid (schB ds q id a = false) := (by show schB ds q id a = false; unfold schB; rw [Hnx.out]; simp)
    refine (HSame.out w10 (B10).out).mono ?_
    rintro e w9 ⟨A9, c9, rfl, v9, b9⟩
    have Y9 := Lib.hid ((Y10).out.below b9)
    have V9 := Lib.hid v9
    have B9 := Lib.hid b9
    clear b9 v9
    obtain ⟨y0, y1, yf⟩ := Y9.out.cells
    have hyl := Y9.out.lt
    have hyw := (Y10).out.lt
    go_wp2
    exact bodyPost_ret (v := .tuple #[.agg #[.slice A9 (((m + 1))) c9, .int .i64 q], .bool false]) (by simp [results, Try.results43, go_sem, y0, y1]) rfl (HEnd.out w10 w9 A9 c9 (B10).out hyw V9.out B9.out Hno.out)
  · have Hb : Hid (schB ds q id a = true) := by show schB ds q id a = true; unfold schB; rw [Hok.out, Hat.out, Hid2.out, hnx]; rfl
    clear hnx
    obtain ⟨p0, p1, pf⟩ := N10.out.cells
    obtain ⟨y0, y1, yf⟩ := Y10.out.cells
    have hyl := Y10.out.lt
    have hpl := N10.out.lt
    have hne1 : w7.heap.size ≠ w.heap.size + 1 := by omega
    go_wp2
    refine bodyPost_ret (v := .tuple #[.agg #[.slice (some ⟨g7, 0, none⟩) (m + 1) c7, .int .i64 (q + 1)], .bool true]) (by simp [results, Try.results43, go_sem, y0, y1]) rfl ?_
    rw [(schD_yes Hb.out).1, (schD_yes Hb.out).2, Hb.out]
    refine ⟨some ⟨g7, 0, none⟩, c7, by rw [hl7.out], ?_, ?_⟩
    · refine DV.wide (lo := w.heap.size + 1 + 1) (hi := w7.heap.size) ?_ (by omega) (by simp [World.setCell]; omega)
      iterate 2 refine DV.setCell ?_ (by show w.heap.size + 1 < w.heap.size + 1 + 1; omega) _
      exact V10.out
    · iterate 2 refine Below.setCell ?_ (by show w.heap.size ≤ w.heap.size + 1; omega) _
      exact B10.out
end Go.Proofs.Ytpjelojmkmednaa.Hp
