/- Contracts of the laws' helpers on queues: size, copy, comparison of two that read alike. -/
import Derived.Test.YtjbfmagedkmngaaQue1
import Derived.StillTailTactics
namespace Go.Proofs.Ytjbfmagedkmngaa.Que
open Go.RowKit Go.Deep Base

set_option maxHeartbeats 400000 in
theorem eqSlotS_same (A1 A2 : Option Addr) (n c1 c2 lo hi lo' hi' : Nat) (ss : List Sl) (w : World) (hn : ss.length = n) (hm : n ≤ 1048576) (h1 : SlV w lo hi A1 ss) (h2 : SlV w lo' hi' A2 ss) (hs : hi ≤ w.heap.size) (hs' : hi' ≤ w.heap.size) :
    Calls Try.prog 56 #[.slice A1 n c1, .slice A2 n c2] w fun e w' => e = .returned (.bool true) ∧ Below w.heap.size w w' := by
  have Hn := Lib.hid hn
  clear hn
  have H1 := Lib.hid h1
  have H2 := Lib.hid h2
  clear h1 h2
  go_enter Try.func56, Try.ntmps56
  go_wp2
  go_loopw [5] (fun i wr => ∃ k : Nat, k ≤ n ∧ i = .int .i64 k ∧ Below w.heap.size w wr) (fun i _ => n - (intOf i).toNat)
  case atStart => exact ⟨0, Nat.zero_le _, rfl, Below.refl _ _⟩
  case round =>
    obtain ⟨k, hk, rfl, hr⟩ := hrel
    by_cases hlt : k < n
    · obtain ⟨g, rfl, _, _, hc⟩ := (H1.out.below hr hs) (by have := Hn.out; omega)
      obtain ⟨c0, c1, c2, c3, _⟩ := hc k (by have := Hn.out; omega)
      clear hc
      obtain ⟨g', rfl, _, _, hc⟩ := (H2.out.below hr hs') (by have := Hn.out; omega)
      obtain ⟨d0, d1, d2, d3, _⟩ := hc k (by have := Hn.out; omega)
      clear hc
      generalize ss.getD k zSl = s at c0 c1 c2 c3 d0 d1 d2 d3
      go_wp2
      go_still_tail 8, (by kernel_rfl)
      change wpList _ _ _ _ _ wr.drew
      go_wp2_with fail
      refine (eqSlot_same _ _ _ _ _).mono ?_
      rintro e w1 ⟨rfl, hb⟩
      go_wp2
      go_roundw
      case rel => exact ⟨k + 1, by omega, by go_num, bel_trans hr (bel_of_drew hb)⟩
      case measure => simp [intOf]; omega
    · go_wp2
      go_ret
      exact ⟨rfl, hr⟩

/-- A queue's value: its slice and its four numbers. -/
def qV (A : Option Addr) (n cap : Nat) (f l r c : Int) : Value := .agg #[.slice A n cap, .int .i64 f, .int .i64 l, .int .i64 r, .int .i64 c]

theorem szQueue_any (A : Option Addr) (n cap : Nat) (f l r c left : Int) (w : World) (hn : n ≤ 9223372036854775807) (h0 : 0 ≤ left) (h1 : left ≤ 1048576) :
    Calls Try.prog 26 #[.agg #[.slice A n cap, .int .i64 f, .int .i64 l, .int .i64 r, .int .i64 c], .int .i64 left] w fun e w' => e = .returned (.int .i64 (if left < n then -1 else left - n)) ∧ Below w.heap.size w w' := by
  by_cases hl : left < n
  · have hl' : ¬ 0 ≤ left - n := by omega
    go_enter Try.func26, Try.ntmps26
    go_wp2
    go_ret
    exact ⟨ret_int (by simp), (Below.refl _ _).alloc (Nat.le_refl _) _⟩
  · go_enter Try.func26, Try.ntmps26
    go_wp2
    go_ret
    exact ⟨ret_int (by simp), (Below.refl _ _).alloc (Nat.le_refl _) _⟩

/-- What a call that hands back a new queue leaves: its slice lies in new memory, old memory stands. -/
def NewQ (w : World) (n : Nat) (ss : List Sl) (f l r c : Int) (e : Ending) (w' : World) : Prop :=
  ∃ A cap, e = .returned (.agg #[.slice A n cap, .int .i64 f, .int .i64 l, .int .i64 r, .int .i64 c]) ∧ SlV w' w.heap.size w'.heap.size A ss ∧ Below w.heap.size w w'

theorem bcell {W w1 : World} (hb : Below W.heap.size W w1) : (∀ b o, b < W.heap.size → w1.cell? ⟨b, o, none⟩ = W.cell? ⟨b, o, none⟩) ∧ (∀ b o, b < W.heap.size → w1.frozen? ⟨b, o, none⟩ = W.frozen? ⟨b, o, none⟩) :=
  ⟨fun b o h => hb.cell (p := ⟨b, o, none⟩) h, fun b o h => hb.frozen (p := ⟨b, o, none⟩) h⟩

theorem SlV.setCell {w : World} {lo hi : Nat} {A : Option Addr} {ss : List Sl} (h : SlV w lo hi A ss) {p : Addr} (hp : p.block < lo) (u : Value) : SlV (w.setCell p u) lo hi A ss :=
  h.of_block fun g h1 _ => Below.heap_setCell w p u g (by omega)

set_option maxHeartbeats 400000 in
theorem toQueue_any (A : Option Addr) (n cap : Nat) (ss : List Sl) (f l r c : Int) (w : World) (hn : ss.length = n) (hm : n ≤ 1048576) (h : LSl w A ss) :
    Calls Try.prog 27 #[.agg #[.slice A n cap, .int .i64 f, .int .i64 l, .int .i64 r, .int .i64 c]] w (NewQ w n ss f l r c) := by
  have Hn := Lib.hid hn
  clear hn
  have HI := Lib.hid h
  clear h
  go_enter Try.func27, Try.ntmps27
  go_wp2_with fail
  refine (toSlotS_any A n cap ss _ Hn.out hm (HI.out.below ?_)).mono ?_
  · exact (((Below.refl _ _).alloc (Nat.le_refl _) _).alloc (by simp) _).alloc (by simp <;> omega) _
  rintro e w1 ⟨rfl, hv, hb⟩
  simp only [World.size_alloc] at hv
  have Hv := Lib.hid hv
  clear hv
  obtain ⟨hc, hf⟩ := bcell hb
  have hz : w.heap.size + 1 + 1 < w1.heap.size := by have := hb.size; simp at this; omega
  have Hb := Lib.hid hb
  clear hb
  go_wp2
  refine bodyPost_ret (v := .agg #[.slice (some ⟨w.heap.size + 1 + 1 + 1, 0, none⟩) n n, .int .i64 f, .int .i64 l, .int .i64 r, .int .i64 c]) (by simp [results, Try.results27, go_sem, hc]) rfl ⟨_, _, rfl, ?_, ?_⟩
  · refine SlV.wide (lo := w.heap.size + 1 + 1 + 1) (hi := w1.heap.size) ?_ (by omega) (by simp [World.setCell])
    iterate 10 refine SlV.setCell ?_ (by simp <;> omega) _
    exact Hv.out
  · iterate 10 refine Below.setCell ?_ (by simp <;> omega) _
    exact bel_trans ((((Below.refl _ _).alloc (Nat.le_refl _) _).alloc (by simp) _).alloc (by simp; omega) _) Hb.out

set_option maxHeartbeats 400000 in
theorem eqQueue_same (A1 A2 : Option Addr) (n c1 c2 lo hi lo' hi' : Nat) (ss : List Sl) (f l r c : Int) (w : World) (hn : ss.length = n) (hm : n ≤ 1048576) (h1 : SlV w lo hi A1 ss) (h2 : SlV w lo' hi' A2 ss) (hs : hi ≤ w.heap.size) (hs' : hi' ≤ w.heap.size) :
    Calls Try.prog 29 #[.agg #[.slice A1 n c1, .int .i64 f, .int .i64 l, .int .i64 r, .int .i64 c], .agg #[.slice A2 n c2, .int .i64 f, .int .i64 l, .int .i64 r, .int .i64 c]] w fun e w' => e = .returned (.bool true) ∧ Below w.heap.size w w' := by
  have Hn := Lib.hid hn
  clear hn
  have H1 := Lib.hid h1
  have H2 := Lib.hid h2
  clear h1 h2
  have ha : ∀ o o', Below w.heap.size w ((w.alloc o).alloc o') := fun o o' => ((Below.refl _ _).alloc (Nat.le_refl _) _).alloc (by simp) _
  have Ha := Lib.hid ha
  clear ha
  go_enter Try.func29, Try.ntmps29
  go_wp2_with fail
  refine (eqSlotS_same A1 A2 n c1 c2 lo hi lo' hi' ss _ Hn.out hm (H1.out.below (Ha.out _ _) hs) (H2.out.below (Ha.out _ _) hs') (by simp; omega) (by simp; omega)).mono ?_
  rintro e w1 ⟨rfl, hb⟩
  obtain ⟨hc, hf⟩ := bcell hb
  have Hb := Lib.hid hb
  clear hb
  go_wp2
  go_ret
  exact ⟨rfl, bel_trans (Ha.out _ _) Hb.out⟩
end Go.Proofs.Ytjbfmagedkmngaa.Que
