/- What push does to the program's form. -/
import Derived.Test.YtjbfmagedkmngaaUnc1
import Derived.StillTailTactics
namespace Go.Proofs.Ytjbfmagedkmngaa.Que
open Go.RowKit Go.Deep Base Rng

/-- A whole slot stored. -/
theorem Lk.setSlot {w : World} {b : Nat} {ss : List Sl} {f l r c : Int} (h : Lk w b ss f l r c) {i : Nat} (hi : i < 60) (hn : ss.length = 60) (s : Sl) :
    Lk ((((w.setCell ⟨b, i * 4, none⟩ (.int .i64 s.id)).setCell ⟨b, i * 4 + 1, none⟩ (.int .i64 s.prev)).setCell ⟨b, i * 4 + 2, none⟩ (.int .i64 s.next)).setCell ⟨b, i * 4 + 3, none⟩ (.bool s.used)) b (ss.set i s) f l r c := by
  refine lk_of_row (((((h.row.set (i * 4) _).set (i * 4 + 1) _).set (i * 4 + 2) _).set (i * 4 + 3) _).congr fun o ho => ?_)
  by_cases e : o / 4 = i ∧ o < 240
  · have hs : lkF (ss.set i s) f l r c o = s.at (o % 4) := by rw [lkF, if_pos e.2, e.1, sl_set _ _ _ _ (by omega), if_pos rfl]
    rw [hs]
    have h4 : o % 4 = 0 ∨ o % 4 = 1 ∨ o % 4 = 2 ∨ o % 4 = 3 := by omega
    rcases h4 with h4 | h4 | h4 | h4
    · rw [if_neg (by omega), if_neg (by omega), if_neg (by omega), if_pos (by omega), h4]; rfl
    · rw [if_neg (by omega), if_neg (by omega), if_pos (by omega), h4]; rfl
    · rw [if_neg (by omega), if_pos (by omega), h4]; rfl
    · rw [if_pos (by omega), h4]; rfl
  · rw [if_neg (by omega), if_neg (by omega), if_neg (by omega), if_neg (by omega)]
    unfold lkF
    by_cases h2 : o < 240
    · rw [if_pos h2, if_pos h2, sl_set _ _ _ _ (by omega), if_neg (by omega)]
    · rw [if_neg h2, if_neg h2]

set_option maxRecDepth 100000 in
set_option maxHeartbeats 1000000 in
theorem push_any (b x : Nat) (id f l c : Int) (ss : List Sl) (w : World) (h : Lk w b ss f l (x : Int) c) (hn : ss.length = 60) (hx : x < 60) (hl : l = -1 ∨ ∃ y : Nat, l = (y : Int) ∧ y < 60) (hc : 0 ≤ c ∧ c ≤ 60) :
    Calls Try.prog 48 #[.pointer (some ⟨b, 0, none⟩), .int .i64 id] w fun e w' => e = .returned (.int .i64 (x : Int)) ∧ Lk w' b (pushS ss l (x : Int) id) (if l = -1 then (x : Int) else f) (x : Int) (sl ss x).next (c + 1) ∧ Turns b (b + 1) w w' := by
  obtain ⟨n0, n1, n2, n3, nf⟩ := h.nums
  obtain ⟨c0, c1, c2, c3⟩ := h.slot hx
  have hb := h.lt
  have hx0 : (0 : Int) ≤ (x : Int) := by omega
  have hx1 : (x : Int) < 60 := by omega
  have H1 := Lib.hid (h.setFree (sl ss x).next)
  have T1 : Hid (Turns b (b + 1) w (w.setCell ⟨b, 242, none⟩ (.int .i64 (sl ss x).next))) := (Turns.of_below (Below.refl _ _)).setCell (by simp) (by simp) _
  have Hn := Lib.hid hn
  have Hl := Lib.hid hl
  have Hc := Lib.hid hc
  obtain ⟨nx, hnx⟩ : ∃ nx, (sl ss x).next = nx := ⟨_, rfl⟩
  rw [hnx] at c2 H1 T1
  have Hnx := Lib.hid hnx
  clear hnx h hn hl hc
  go_enter Try.func48, Try.ntmps48
  go_wp2_with fail
  obtain ⟨W1, hW1⟩ : ∃ W1, w.setCell ⟨b, 242, none⟩ (.int .i64 nx) = W1 := ⟨_, rfl⟩
  rw [hW1] at H1 T1 ⊢
  clear hW1 n0 n1 n2 n3 nf c0 c1 c2 c3
  obtain ⟨n0, n1, n2, n3, nf⟩ := H1.out.nums
  obtain ⟨c0, c1, c2, c3⟩ := H1.out.slot hx
  have w1 : IntKind.i64.wrap (c + 1) = c + 1 := IntWalk.i64_in _ (by have := Hc.out; omega)
  rcases Hl.out with rfl | ⟨y, rfl, hy⟩
  · clear Hl
    have HE := Lib.hid ((((H1.out.setSlot hx Hn.out ⟨id, -1, -1, true⟩).setFirst (x : Int)).setLast (x : Int)).setCount (c + 1)).drew
    have TE : Hid (Turns b (b + 1) w (((((((W1.setCell ⟨b, x * 4, none⟩ (.int .i64 id)).setCell ⟨b, x * 4 + 1, none⟩ (.int .i64 (-1))).setCell ⟨b, x * 4 + 2, none⟩ (.int .i64 (-1))).setCell ⟨b, x * 4 + 3, none⟩ (.bool true)).setCell ⟨b, 240, none⟩ (.int .i64 (x : Int))).setCell ⟨b, 241, none⟩ (.int .i64 (x : Int))).setCell ⟨b, 243, none⟩ (.int .i64 (c + 1))).drew) := by
      refine tdrew ?_
      iterate 7 refine Turns.setCell ?_ (by simp) (by simp) _
      exact T1.out
    go_still_tail 11, (by kernel_rfl)
    change wpList _ _ _ _ _ W1.drew
    go_wp2_with fail
    go_ret
    refine ⟨rfl, ?_, TE.out⟩
    have he := HE.out
    rw [Hnx.out]
    unfold pushS setNext
    simpa using he
  · have hy0 : (0 : Int) ≤ (y : Int) := by omega
    have hy1 : (y : Int) < 60 := by omega
    have hyn : ((y : Int) == -1) = false := by simp
    clear Hl
    have HE := Lib.hid (H1.out.setSlot hx Hn.out ⟨id, (y : Int), -1, true⟩).drew
    have TE : Hid (Turns b (b + 1) w ((((W1.setCell ⟨b, x * 4, none⟩ (.int .i64 id)).setCell ⟨b, x * 4 + 1, none⟩ (.int .i64 (y : Int))).setCell ⟨b, x * 4 + 2, none⟩ (.int .i64 (-1))).setCell ⟨b, x * 4 + 3, none⟩ (.bool true)).drew) := by
      refine tdrew ?_
      iterate 4 refine Turns.setCell ?_ (by simp) (by simp) _
      exact T1.out
    go_still_tail 11, (by kernel_rfl)
    change wpList _ _ _ _ _ W1.drew
    go_wp2_with fail
    obtain ⟨W2, hW2⟩ : ∃ W2, ((((W1.setCell ⟨b, x * 4, none⟩ (.int .i64 id)).setCell ⟨b, x * 4 + 1, none⟩ (.int .i64 (y : Int))).setCell ⟨b, x * 4 + 2, none⟩ (.int .i64 (-1))).setCell ⟨b, x * 4 + 3, none⟩ (.bool true)).drew = W2 := ⟨_, rfl⟩
    rw [hW2] at HE TE ⊢
    clear hW2 n0 n1 n2 n3 nf c0 c1 c2 c3
    obtain ⟨n0, n1, n2, n3, nf⟩ := HE.out.nums
    obtain ⟨c0, c1, c2, c3⟩ := HE.out.slot hy
    have hls : (ss.set x ⟨id, (y : Int), -1, true⟩).length = 60 := by rw [List.length_set]; exact Hn.out
    have HF := Lib.hid (((HE.out.next hy hls (x : Int)).drew.setLast (x : Int)).setCount (c + 1))
    have TF : Hid (Turns b (b + 1) w (((W2.setCell ⟨b, y * 4 + 2, none⟩ (.int .i64 (x : Int))).setCell ⟨b, 241, none⟩ (.int .i64 (x : Int))).setCell ⟨b, 243, none⟩ (.int .i64 (c + 1))).drew) := by
      refine tdrew ?_
      iterate 3 refine Turns.setCell ?_ (by simp) (by simp) _
      exact TE.out
    clear hls
    generalize sl (ss.set x ⟨id, (y : Int), -1, true⟩) y = sy at c0 c1 c2 c3
    go_still_tail 10, (by kernel_rfl)
    change wpList _ _ _ _ _ W2.drew
    go_wp2_with fail
    go_ret
    refine ⟨rfl, ?_, TF.out⟩
    have he := HF.out
    rw [Hnx.out]
    unfold pushS setNext
    rw [if_neg (by omega)]
    simp only [Int.toNat_natCast]
    exact he
end Go.Proofs.Ytjbfmagedkmngaa.Que
