/- An item added to the program's tree. -/
import Derived.Test.YtnmhdbfemobhkaaCn4
namespace Go.Proofs.Ytnmhdbfemobhkaa.Hp
open Go.RowKit Go.Deep Base

/-- One item more, moved up. -/
def addD (ds : List Du) (d : Du) : List Du := upD ds.length (ds ++ [d]) ds.length
theorem addD_len (ds : List Du) (d : Du) : (addD ds d).length = ds.length + 1 := by unfold addD; rw [upD_len]; simp

theorem owns_of {w : World} {lo hi n cap : Nat} {A : Option Addr} {ds : List Du} (hn : ds.length = n) (hs : Sh w lo hi A n cap) (h : DV w lo hi A ds) : w.ownsRow lo 39 3 (.slice A n cap) n (cellsL ds) := by
  refine ⟨by rw [cellsL_len, hn], ?_⟩
  rcases hs with ⟨rfl, rfl, rfl⟩ | ⟨g, cur, rfl, h1, h2, h3, h4, h5, h6⟩
  · exact .inl ⟨rfl, rfl⟩
  · refine .inr ⟨g, cap, cur, rfl, h1, h3, h4, h5, h6, ?_⟩
    apply List.ext_getElem?
    intro j
    rw [List.getElem?_take]
    by_cases hj : j < n * 3
    · rw [if_pos hj]
      obtain ⟨g', e, _, _, hr⟩ := h (by omega)
      injection e with e
      injection e with e _ _
      subst e
      have hl : j < (cellsL ds).length := by rw [cellsL_len, hn]; exact hj
      have hc := news_rd hr j _ (List.getElem?_eq_getElem hl)
      have ea : (⟨g, 0, none⟩ : Addr).add j = ⟨g, j, none⟩ := by
        unfold Addr.add; split
        · next h => subst h; rfl
        · simp
      rw [ea, cell_of_row w g j cur _ (0, 0) h3] at hc
      rw [List.getElem?_eq_getElem hl, ← hc]
      simp
    · rw [if_neg hj, List.getElem?_eq_none (by rw [cellsL_len, hn]; omega)]

set_option maxRecDepth 100000 in
set_option maxHeartbeats 2000000 in
theorem add_any (b n cap lo hi : Nat) (A : Option Addr) (ds : List Du) (dat dseq did : Int) (w : World) (hn : ds.length = n) (hm : n + 1 ≤ 1048576) (ht : Tr w b A n cap) (h : DV w lo hi A ds) (hsh : Sh w lo hi A n cap) (hlb : hi ≤ b) (hlob : lo ≤ b) :
    Calls Try.prog 67 #[.pointer (some ⟨b, 0, none⟩), .agg #[.int .i64 dat, .int .i64 dseq, .int .i64 did]] w fun e w' => e = .returned (.tuple #[]) ∧ ∃ g' cap', Tr w' b (some ⟨g', 0, none⟩) (n + 1) cap' ∧ lo ≤ g' ∧ g' < w'.heap.size ∧ Rd w' g' (addD ds ⟨dat, dseq, did⟩) ∧ Below lo w w' := by
  have Hn := Lib.hid hn
  have HT := Lib.hid ht
  have HO := Lib.hid (owns_of hn hsh h)
  have Hne : Hid (some b ≠ (Value.slice A n cap).ownBlock) := by
    rcases hsh with ⟨rfl, _, _⟩ | ⟨g, _, rfl, _, h2, _⟩
    · exact fun e => by cases e
    · intro e
      injection e with e
      have e' : b = g := e
      omega
  have hbl := ht.lt
  clear hn h ht hsh
  obtain ⟨i0, hi0, hz0, hz1, hz2⟩ := info_parts infoDue
  have Hi0 := Lib.hid hi0
  have Hz0 := Lib.hid hz0
  have Hz1 := Lib.hid hz1
  have Hz2 := Lib.hid hz2
  clear hi0 hz0 hz1 hz2
  go_enter Try.func67, Try.ntmps67
  go_wp2_with fail
  obtain ⟨W1, hW1⟩ : ∃ W1, w.alloc (.cells #[.int .i64 dat, .int .i64 dseq, .int .i64 did] 39) = W1 := ⟨_, rfl⟩
  have B1 : Hid (Below w.heap.size w W1) := by rw [← hW1]; exact bel_alloc _ _
  have K1 : Hid (W1.heap[w.heap.size]? = some (.cells #[.int .i64 dat, .int .i64 dseq, .int .i64 did] 39 (0, 0))) := by rw [← hW1]; exact heap_alloc_new w _
  have O1 : Hid (W1.ownsRow lo 39 3 (.slice A n cap) n (cellsL ds)) := by rw [← hW1]; exact HO.out.alloc _
  have T1 := Lib.hid (HT.out.below B1.out)
  have z1 : w.heap.size < W1.heap.size := by rw [← hW1]; simp
  rw [hW1]
  clear hW1
  obtain ⟨t0, t1, tf⟩ := T1.out.cells
  have hbl1 := T1.out.lt
  have hc : ∀ o, W1.cell? ⟨w.heap.size, o, none⟩ = (#[.int .i64 dat, .int .i64 dseq, .int .i64 did] : Array Value)[o]? := fun o => cell_of_row _ _ o _ _ (0, 0) K1.out
  have k0 : W1.cell? ⟨w.heap.size, 0, none⟩ = some (.int .i64 dat) := hc 0
  have k1 : W1.cell? ⟨w.heap.size, 1, none⟩ = some (.int .i64 dseq) := hc 1
  have k2 : W1.cell? ⟨w.heap.size, 2, none⟩ = some (.int .i64 did) := hc 2
  clear hc
  have HF : Hid (∀ o w3, (W1.alloc o).drew.grownBy w3 (Value.slice A n cap).ownBlock → w3.heap[b]? = W1.heap[b]?) := fun o w3 hg =>
    (hg.block b (by show b < (W1.alloc o).heap.size; simp; omega) Hne.out).trans (Below.heap_alloc W1 o b hbl1)
  go_region_law
    ((refine step_append_lies _ (by rfl) _ _ _ (by rfl) lo 39 i0 _ 3 24 Try.underlying26 Hi0.out Hz0.out Hz1.out Hz2.out rfl (by omega) (.slice A n cap) n _ (by rfl) ((O1.out.alloc _).drew)
        ⟨W1.heap.size, 0, none⟩ 1 1 [.int .i64 dat, .int .i64 dseq, .int .i64 did] (by rfl) (by rfl) (new_three_at (w := W1) rfl _ _ _ _) (by simp [Value.oneCell'])
        (by omega) (by unfold maxLen; omega) (by omega) (by simp; omega) (W1.heap.size + 1) (by simp) ?_; intro gg cap' w3 hown hgrow hat hlt'; have yq := (World.cell?_of_block (w := W1) (a := ⟨b, 0, none⟩) (HF.out _ _ hgrow)).trans t0; have yf := (World.frozen?_of_block (w := W1) (a := ⟨b, 0, none⟩) (HF.out _ _ hgrow)).trans (tf 0)))
  all_goals
    have hgb : b ≠ gg := by
      rcases hat with e | e
      · exact fun e' => Hne.out (by rw [e, e'])
      · omega
    have hgl : lo ≤ gg := (hown.lt gg rfl).1
    have hl1 : (ds ++ [(⟨dat, dseq, did⟩ : Du)]).length = n + 1 := by rw [List.length_append, Hn.out]; rfl
    have T4 : Hid (Tr (w3.setCell ⟨b, 0, none⟩ (.slice (some ⟨gg, 0, none⟩) (n + 1) cap')) b (some ⟨gg, 0, none⟩) (n + 1) cap') := (T1.out.of_block (HF.out _ _ hgrow)).store _ _ _
    have R4 : Hid (Rd (w3.setCell ⟨b, 0, none⟩ (.slice (some ⟨gg, 0, none⟩) (n + 1) cap')) gg (ds ++ [⟨dat, dseq, did⟩])) := by
      have h1 := hown
      rw [← cellsL_one ⟨dat, dseq, did⟩, ← cellsL_append] at h1
      exact (rd_owns hl1 h1).of_block (heap_setCell_other w3 _ _ _ (by show gg ≠ b; omega))
    have B4 : Hid (Below lo w (w3.setCell ⟨b, 0, none⟩ (.slice (some ⟨gg, 0, none⟩) (n + 1) cap'))) :=
      ((((B1.out.mono (show lo ≤ w.heap.size by omega)).alloc (by omega) _).grown (grown_undrew hgrow) (by simp; omega) (fun j e => (O1.out.lt j e).1)).setCell (show lo ≤ b from hlob) _)
    have z4 : gg < (w3.setCell ⟨b, 0, none⟩ (.slice (some ⟨gg, 0, none⟩) (n + 1) cap')).heap.size := by simp [World.setCell]; exact hlt'
    have Hl1 := Lib.hid hl1
    clear hown hgrow hat hlt' yq yf t0 t1 tf k0 k1 k2 hl1
    obtain ⟨W4, hW4⟩ : ∃ W4, w3.setCell ⟨b, 0, none⟩ (.slice (some ⟨gg, 0, none⟩) (n + 1) cap') = W4 := ⟨_, rfl⟩
    rw [hW4] at T4 R4 B4 z4 ⊢
    clear hW4
    obtain ⟨t0, t1, tf⟩ := T4.out.cells
    go_wp2_with fail
    refine (moveUp_any b gg (n + 1) cap' n (ds ++ [⟨dat, dseq, did⟩]) W4 Hl1.out hm (by omega) T4.out R4.out z4 hgb).mono ?_
    rintro e w5 ⟨rfl, rd5, tn5⟩
    have R5 : Hid (Rd w5 gg (addD ds ⟨dat, dseq, did⟩)) := by unfold addD; rw [Hn.out]; exact rd5
    have T5 := Lib.hid (T4.out.tn tn5 hgb)
    have B5 := Lib.hid (B4.out.trans (tn5.toTurns.below hgl (by omega)))
    have z5 : gg < w5.heap.size := Nat.lt_of_lt_of_le z4 tn5.size
    clear rd5 tn5
    go_wp2
    go_end0
    exact ⟨rfl, gg, cap', T5.out, hgl, z5, R5.out, B5.out⟩
end Go.Proofs.Ytnmhdbfemobhkaa.Hp
