/- What QueueOk answers. -/
import Derived.Test.YtjbfmagedkmngaaImp7
namespace Go.Proofs.Ytjbfmagedkmngaa.Que
open Go.RowKit Go.Deep Base Rng Go.Shelf

set_option maxRecDepth 100000 in
set_option maxHeartbeats 1000000 in
theorem queueOk_any (A : Option Addr) (n cap : Nat) (ss : List Sl) (f l r c : Int) (lo hi : Nat) (w : World) (hn : ss.length = n) (h : SlV w lo hi A ss) (hhi : hi ≤ w.heap.size) :
    Calls Try.prog 28 #[.agg #[.slice A n cap, .int .i64 f, .int .i64 l, .int .i64 r, .int .i64 c]] w fun e w' => e = .returned (.bool (okQ ss f l r c)) ∧ Below w.heap.size w w' := by
  have Hn := Lib.hid hn
  have HS := Lib.hid h
  have Hhi := Lib.hid hhi
  clear h hn hhi
  go_enter Try.func28, Try.ntmps28
  go_wp2_with fail
  refine (linksOf_any A n cap ss f l r c lo hi _ Hn.out (HS.out.below (bel_alloc w _) Hhi.out) (by have := Hhi.out; simp; omega)).mono ?_
  rintro e w1 ⟨s', f', l', r', c', rfl, _, hb1⟩
  have HB1 := Lib.hid (bel_trans (bel_alloc w _) hb1)
  clear hb1
  obtain ⟨ok, hok⟩ : ∃ ok, okQ ss f l r c = ok := ⟨_, rfl⟩
  rw [hok]
  have Hok := Lib.hid hok
  clear hok
  have hsc := store_links w1 Try.zeroCells54 (lkA s' f' l' r' c') (by rw [zero_links, lkA_size]) s' f' l' r' c' rfl
  have hsz := lkA_size s' f' l' r' c'
  go_wp2_with fail
  go_ret
  exact ⟨by rw [Hok.out]; rfl, HB1.out.alloc (HB1.out.size) _⟩
end Go.Proofs.Ytjbfmagedkmngaa.Que
