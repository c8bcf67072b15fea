/- Wanted, the program's and the reference's. -/
import Derived.Test.YtehdbdolhkflcaaPc1
import Derived.Deep.RegionHeld3
import Derived.Deep.RegionWith
namespace Go.Proofs.Ytehdbdolhkflcaa.Po
open Go.RowKit Go.Deep Base Ln

theorem ll_few (x : Lx) : (llA x).length ≤ 60 := by
  unfold llA
  by_cases h : okL x = true
  · rw [if_pos h]
    have := (Qx.ids_facts (okL_iff.1 h).ok).2.2.1
    omega
  · rw [if_neg h]; simp

/-- A part of a block that is known whole. -/
theorem bx_part {w : World} {g : Nat} {ty : TypeId} (a m b : List Value) (h : Bx w g ty ⟨a ++ (m ++ b)⟩) : w.rangeAt g a.length m := fun j v hv => by
  rw [h.cell]
  have hj : j < m.length := (List.getElem?_eq_some_iff.1 hv).1
  rw [show (⟨a ++ (m ++ b)⟩ : Array Value)[a.length + j]? = (a ++ (m ++ b))[a.length + j]? from by simp]
  rw [List.getElem?_append_right (Nat.le_add_right _ _), Nat.add_sub_cancel_left, List.getElem?_append_left hj]
  exact hv

set_option maxRecDepth 100000 in
set_option maxHeartbeats 4000000 in
theorem implWanted_any (a : PA) (p : Pl) (R : RP) (w : World) (hn : Few p 1048576) (h : PM w R a p) (hR : R.In 0 w.heap.size) :
    Calls Try.prog 19 #[.agg #[.int .i64 (p.c 0), .int .i64 (p.c 1), .int .i64 (p.c 2), .int .i64 (p.c 3), .int .i64 (p.c 4), .int .i64 (p.c 5), .int .i64 (p.c 6), .int .i64 (p.c 7), .int .i64 (p.c 8), .int .i64 (p.c 9), .int .i64 (p.c 10), .int .i64 (p.c 11), .int .i64 (p.c 12), .int .i64 (p.c 13), .int .i64 p.now, .int .i64 p.mode, .int .i64 p.nc, .int .i64 p.nt, .slice a.C p.cs.length a.cc, .slice a.A p.x.s.ss.length a.ca, .int .i64 p.x.s.f, .int .i64 p.x.s.l, .int .i64 p.x.s.r, .int .i64 p.x.s.c, .slice a.B p.x.ds.length a.cb, .int .i64 p.x.q, .int .i64 p.b.state, .slice a.F p.b.fails.length a.fc, .int .i64 p.b.till, .int .i64 p.fails, .int .i64 p.redial, .int .i64 p.drain]] w fun e w' => e = .returned (.int .i64 (wants p)) ∧ Below w.heap.size w w' := by
  have H := Lib.hid h
  have HR := Lib.hid hR
  have Hn := Lib.hid hn
  clear h hR hn
  have Hw : Hid (wants p = min (max ((cnt p.cs 3 : Int) + (llA p.x).length) (p.c 0)) (p.c 1)) := Lib.hid rfl
  have f1 : cnt p.cs 3 ≤ 1048576 := Nat.le_trans (cnt_le _ _) Hn.out.cs
  have f2 : (llA p.x).length ≤ 60 := ll_few p.x
  have hw0 : IntKind.i64.wrap ((cnt p.cs 3 : Int) + ((llA p.x).length : Int)) = (cnt p.cs 3 : Int) + ((llA p.x).length : Int) := IntWalk.i64_in _ (by omega)
  generalize wants p = z at Hw ⊢
  go_enter Try.func19, Try.ntmps19
  go_wp2_with fail
  obtain ⟨w1, hw1⟩ : ∃ w1, w.alloc (.cells #[.int .i64 (p.c 0), .int .i64 (p.c 1), .int .i64 (p.c 2), .int .i64 (p.c 3), .int .i64 (p.c 4), .int .i64 (p.c 5), .int .i64 (p.c 6), .int .i64 (p.c 7), .int .i64 (p.c 8), .int .i64 (p.c 9), .int .i64 (p.c 10), .int .i64 (p.c 11), .int .i64 (p.c 12), .int .i64 (p.c 13), .int .i64 p.now, .int .i64 p.mode, .int .i64 p.nc, .int .i64 p.nt, .slice a.C p.cs.length a.cc, .slice a.A p.x.s.ss.length a.ca, .int .i64 p.x.s.f, .int .i64 p.x.s.l, .int .i64 p.x.s.r, .int .i64 p.x.s.c, .slice a.B p.x.ds.length a.cb, .int .i64 p.x.q, .int .i64 p.b.state, .slice a.F p.b.fails.length a.fc, .int .i64 p.b.till, .int .i64 p.fails, .int .i64 p.redial, .int .i64 p.drain] 38) = w1 := ⟨_, rfl⟩
  have B1 : Hid (Below w.heap.size w w1) := by rw [← hw1]; exact bel_alloc _ _
  have K : Hid (Bx w1 w.heap.size 38 #[.int .i64 (p.c 0), .int .i64 (p.c 1), .int .i64 (p.c 2), .int .i64 (p.c 3), .int .i64 (p.c 4), .int .i64 (p.c 5), .int .i64 (p.c 6), .int .i64 (p.c 7), .int .i64 (p.c 8), .int .i64 (p.c 9), .int .i64 (p.c 10), .int .i64 (p.c 11), .int .i64 (p.c 12), .int .i64 (p.c 13), .int .i64 p.now, .int .i64 p.mode, .int .i64 p.nc, .int .i64 p.nt, .slice a.C p.cs.length a.cc, .slice a.A p.x.s.ss.length a.ca, .int .i64 p.x.s.f, .int .i64 p.x.s.l, .int .i64 p.x.s.r, .int .i64 p.x.s.c, .slice a.B p.x.ds.length a.cb, .int .i64 p.x.q, .int .i64 p.b.state, .slice a.F p.b.fails.length a.fc, .int .i64 p.b.till, .int .i64 p.fails, .int .i64 p.redial, .int .i64 p.drain]) := by rw [← hw1]; exact Bx.new _ _ _
  rw [hw1]
  clear hw1
  have HS : Hid (Bx w1.drew w.heap.size 38 #[.int .i64 (p.c 0), .int .i64 (p.c 1), .int .i64 (p.c 2), .int .i64 (p.c 3), .int .i64 (p.c 4), .int .i64 (p.c 5), .int .i64 (p.c 6), .int .i64 (p.c 7), .int .i64 (p.c 8), .int .i64 (p.c 9), .int .i64 (p.c 10), .int .i64 (p.c 11), .int .i64 (p.c 12), .int .i64 (p.c 13), .int .i64 p.now, .int .i64 p.mode, .int .i64 p.nc, .int .i64 p.nt, .slice a.C p.cs.length a.cc, .slice a.A p.x.s.ss.length a.ca, .int .i64 p.x.s.f, .int .i64 p.x.s.l, .int .i64 p.x.s.r, .int .i64 p.x.s.c, .slice a.B p.x.ds.length a.cb, .int .i64 p.x.q, .int .i64 p.b.state, .slice a.F p.b.fails.length a.fc, .int .i64 p.b.till, .int .i64 p.fails, .int .i64 p.redial, .int .i64 p.drain]) := K.out
  refine wp_region_held_drew (S := fun V => Bx V w.heap.size 38 #[.int .i64 (p.c 0), .int .i64 (p.c 1), .int .i64 (p.c 2), .int .i64 (p.c 3), .int .i64 (p.c 4), .int .i64 (p.c 5), .int .i64 (p.c 6), .int .i64 (p.c 7), .int .i64 (p.c 8), .int .i64 (p.c 9), .int .i64 (p.c 10), .int .i64 (p.c 11), .int .i64 (p.c 12), .int .i64 (p.c 13), .int .i64 p.now, .int .i64 p.mode, .int .i64 p.nc, .int .i64 p.nt, .slice a.C p.cs.length a.cc, .slice a.A p.x.s.ss.length a.ca, .int .i64 p.x.s.f, .int .i64 p.x.s.l, .int .i64 p.x.s.r, .int .i64 p.x.s.c, .slice a.B p.x.ds.length a.cb, .int .i64 p.x.q, .int .i64 p.b.state, .slice a.F p.b.fails.length a.fc, .int .i64 p.b.till, .int .i64 p.fails, .int .i64 p.redial, .int .i64 p.drain]) (by kernel_rfl) HS.out (fun _ => ?_)
  refine wpAnyH_take (i := 0) (v := .agg #[.int .i64 (p.c 0), .int .i64 (p.c 1), .int .i64 (p.c 2), .int .i64 (p.c 3), .int .i64 (p.c 4), .int .i64 (p.c 5), .int .i64 (p.c 6), .int .i64 (p.c 7), .int .i64 (p.c 8), .int .i64 (p.c 9), .int .i64 (p.c 10), .int .i64 (p.c 11), .int .i64 (p.c 12), .int .i64 (p.c 13), .int .i64 p.now, .int .i64 p.mode, .int .i64 p.nc, .int .i64 p.nt, .slice a.C p.cs.length a.cc, .slice a.A p.x.s.ss.length a.ca, .int .i64 p.x.s.f, .int .i64 p.x.s.l, .int .i64 p.x.s.r, .int .i64 p.x.s.c, .slice a.B p.x.ds.length a.cb, .int .i64 p.x.q, .int .i64 p.b.state, .slice a.F p.b.fails.length a.fc, .int .i64 p.b.till, .int .i64 p.fails, .int .i64 p.redial, .int .i64 p.drain]) rfl (by kernel_rfl) (by kernel_rfl) (by kernel_rfl) (fun _ _ _ h => h) (yieldsIf_load_mid rfl 38 (.tmp 1) rfl w.heap.size 0 rfl [.int .i64 (p.c 0), .int .i64 (p.c 1), .int .i64 (p.c 2), .int .i64 (p.c 3), .int .i64 (p.c 4), .int .i64 (p.c 5), .int .i64 (p.c 6), .int .i64 (p.c 7), .int .i64 (p.c 8), .int .i64 (p.c 9), .int .i64 (p.c 10), .int .i64 (p.c 11), .int .i64 (p.c 12), .int .i64 (p.c 13), .int .i64 p.now, .int .i64 p.mode, .int .i64 p.nc, .int .i64 p.nt, .slice a.C p.cs.length a.cc, .slice a.A p.x.s.ss.length a.ca, .int .i64 p.x.s.f, .int .i64 p.x.s.l, .int .i64 p.x.s.r, .int .i64 p.x.s.c, .slice a.B p.x.ds.length a.cb, .int .i64 p.x.q, .int .i64 p.b.state, .slice a.F p.b.fails.length a.fc, .int .i64 p.b.till, .int .i64 p.fails, .int .i64 p.redial, .int .i64 p.drain] _ (fun V hS => bx_range hS) Try.underlying38 rfl (by kernel_rfl)) HS.out ?_
  go_simp
  refine wpAnyH_take (i := 2) (v := (.pointer (some ⟨w.heap.size, 19, none⟩))) rfl (by kernel_rfl) (by kernel_rfl) (by kernel_rfl) (fun _ _ _ h => h) (.inl ⟨rfl, fun V hS => ?y0⟩) HS.out ?_
  case y0 =>
    clear hS
    go_simp
  go_simp
  refine wpAnyH_take (i := 3) (v := .agg #[.slice a.A p.x.s.ss.length a.ca, .int .i64 p.x.s.f, .int .i64 p.x.s.l, .int .i64 p.x.s.r, .int .i64 p.x.s.c, .slice a.B p.x.ds.length a.cb, .int .i64 p.x.q]) rfl (by kernel_rfl) (by kernel_rfl) (by kernel_rfl) (fun _ _ _ h => h) (yieldsIf_load_mid rfl 33 (.tmp 6) rfl w.heap.size 19 rfl [.slice a.A p.x.s.ss.length a.ca, .int .i64 p.x.s.f, .int .i64 p.x.s.l, .int .i64 p.x.s.r, .int .i64 p.x.s.c, .slice a.B p.x.ds.length a.cb, .int .i64 p.x.q] _ (fun V hS => bx_part [.int .i64 (p.c 0), .int .i64 (p.c 1), .int .i64 (p.c 2), .int .i64 (p.c 3), .int .i64 (p.c 4), .int .i64 (p.c 5), .int .i64 (p.c 6), .int .i64 (p.c 7), .int .i64 (p.c 8), .int .i64 (p.c 9), .int .i64 (p.c 10), .int .i64 (p.c 11), .int .i64 (p.c 12), .int .i64 (p.c 13), .int .i64 p.now, .int .i64 p.mode, .int .i64 p.nc, .int .i64 p.nt, .slice a.C p.cs.length a.cc] [.slice a.A p.x.s.ss.length a.ca, .int .i64 p.x.s.f, .int .i64 p.x.s.l, .int .i64 p.x.s.r, .int .i64 p.x.s.c, .slice a.B p.x.ds.length a.cb, .int .i64 p.x.q] [.int .i64 p.b.state, .slice a.F p.b.fails.length a.fc, .int .i64 p.b.till, .int .i64 p.fails, .int .i64 p.redial, .int .i64 p.drain] hS) Try.underlying33 rfl (by kernel_rfl)) HS.out ?_
  go_simp
  refine wpAnyH_ready (rs := [1]) (by kernel_rfl) (by simp) (AllReadyH.cons rfl (fun J hJ => ?_) AllReadyH.nil)
  go_simp
  refine (implCount_any a p 3 R w1.drew Hn.out.cs (H.out.cs.below B1.out.drew HR.out.c') (Nat.le_trans HR.out.c' B1.out.size)).mono ?_
  rintro e w2 ⟨rfl, b2⟩
  have B2 := Lib.hid (bel_trans B1.out (bel_of_drew b2))
  have HS2 : Hid (Bx w2 w.heap.size 38 #[.int .i64 (p.c 0), .int .i64 (p.c 1), .int .i64 (p.c 2), .int .i64 (p.c 3), .int .i64 (p.c 4), .int .i64 (p.c 5), .int .i64 (p.c 6), .int .i64 (p.c 7), .int .i64 (p.c 8), .int .i64 (p.c 9), .int .i64 (p.c 10), .int .i64 (p.c 11), .int .i64 (p.c 12), .int .i64 (p.c 13), .int .i64 p.now, .int .i64 p.mode, .int .i64 p.nc, .int .i64 p.nt, .slice a.C p.cs.length a.cc, .slice a.A p.x.s.ss.length a.ca, .int .i64 p.x.s.f, .int .i64 p.x.s.l, .int .i64 p.x.s.r, .int .i64 p.x.s.c, .slice a.B p.x.ds.length a.cb, .int .i64 p.x.q, .int .i64 p.b.state, .slice a.F p.b.fails.length a.fc, .int .i64 p.b.till, .int .i64 p.fails, .int .i64 p.redial, .int .i64 p.drain]) := HS.out.below b2
  clear b2
  refine hJ.out _ _ HS2.out (fun _ => ?_)
  clear hJ J
  go_simp
  refine wpAnyH_ready (rs := [4]) (by kernel_rfl) (by simp) (AllReadyH.cons rfl (fun J hJ => ?_) AllReadyH.nil)
  go_simp
  refine (implList_any a.A a.ca p.x a.B a.cb R.L w2 Hn.out.s Hn.out.h (H.out.x.below B2.out HR.out.L) (HR.out.L.wide (Nat.le_refl _) B2.out.size)).mono ?_
  rintro e w3 ⟨G, cg, rfl, v3, b3⟩
  have B3 := Lib.hid (bel_trans B2.out b3)
  have HS3 : Hid (Bx w3 w.heap.size 38 #[.int .i64 (p.c 0), .int .i64 (p.c 1), .int .i64 (p.c 2), .int .i64 (p.c 3), .int .i64 (p.c 4), .int .i64 (p.c 5), .int .i64 (p.c 6), .int .i64 (p.c 7), .int .i64 (p.c 8), .int .i64 (p.c 9), .int .i64 (p.c 10), .int .i64 (p.c 11), .int .i64 (p.c 12), .int .i64 (p.c 13), .int .i64 p.now, .int .i64 p.mode, .int .i64 p.nc, .int .i64 p.nt, .slice a.C p.cs.length a.cc, .slice a.A p.x.s.ss.length a.ca, .int .i64 p.x.s.f, .int .i64 p.x.s.l, .int .i64 p.x.s.r, .int .i64 p.x.s.c, .slice a.B p.x.ds.length a.cb, .int .i64 p.x.q, .int .i64 p.b.state, .slice a.F p.b.fails.length a.fc, .int .i64 p.b.till, .int .i64 p.fails, .int .i64 p.redial, .int .i64 p.drain]) := HS2.out.below b3
  clear b3 v3 HS HS2
  have HS := HS3
  refine hJ.out _ _ HS.out (fun _ => ?_)
  clear hJ J
  go_simp
  refine wpAnyH_take (i := 5) (v := (.int .i64 (llA p.x).length)) rfl (by kernel_rfl) (by kernel_rfl) (by kernel_rfl) (fun _ _ _ h => h) (.inl ⟨rfl, fun V hS => ?y0⟩) HS.out ?_
  case y0 =>
    clear hS
    go_simp
  go_simp
  refine wpAnyH_take (i := 6) (v := (.int .i64 ((cnt p.cs 3 : Int) + (llA p.x).length))) rfl (by kernel_rfl) (by kernel_rfl) (by kernel_rfl) (fun _ _ _ h => h) (.inl ⟨rfl, fun V hS => ?y0⟩) HS.out ?_
  case y0 =>
    clear hS
    go_simp
  go_simp
  refine wpAnyH_ready (rs := [7]) (by kernel_rfl) (by simp) (AllReadyH.cons rfl (fun J hJ => ?_) AllReadyH.nil)
  go_simp
  refine hJ.out _ _ HS.out (fun _ => ?_)
  clear hJ J
  refine wpAnyH_done (by kernel_rfl) ?_ _
  obtain ⟨q0, q1⟩ : w3.cell? ⟨w.heap.size, 0, none⟩ = some (.int .i64 (p.c 0)) ∧ w3.cell? ⟨w.heap.size, 1, none⟩ = some (.int .i64 (p.c 1)) := ⟨HS.out.cell 0, HS.out.cell 1⟩
  clear HS HS3
  generalize hm : (cnt p.cs 3 : Int) + (llA p.x).length = m at Hw ⊢
  by_cases h1 : p.c 0 < m
  · by_cases h2 : p.c 1 < m
    · go_wp2
      go_ret
      exact ⟨ret_int (by rw [Hw.out]; omega), B3.out⟩
    · go_wp2
      go_ret
      exact ⟨ret_int (by rw [Hw.out]; omega), B3.out⟩
  · by_cases h2 : p.c 1 < p.c 0
    · go_wp2
      go_ret
      exact ⟨ret_int (by rw [Hw.out]; omega), B3.out⟩
    · go_wp2
      go_ret
      exact ⟨ret_int (by rw [Hw.out]; omega), B3.out⟩

set_option maxRecDepth 100000 in
set_option maxHeartbeats 4000000 in
theorem specWanted_any (a : PA) (p : Pl) (R : RP) (w : World) (hn : Few p 1048576) (h : PM w R a p) (hR : R.In 0 w.heap.size) :
    Calls Try.prog 18 #[.agg #[.int .i64 (p.c 0), .int .i64 (p.c 1), .int .i64 (p.c 2), .int .i64 (p.c 3), .int .i64 (p.c 4), .int .i64 (p.c 5), .int .i64 (p.c 6), .int .i64 (p.c 7), .int .i64 (p.c 8), .int .i64 (p.c 9), .int .i64 (p.c 10), .int .i64 (p.c 11), .int .i64 (p.c 12), .int .i64 (p.c 13), .int .i64 p.now, .int .i64 p.mode, .int .i64 p.nc, .int .i64 p.nt, .slice a.C p.cs.length a.cc, .slice a.A p.x.s.ss.length a.ca, .int .i64 p.x.s.f, .int .i64 p.x.s.l, .int .i64 p.x.s.r, .int .i64 p.x.s.c, .slice a.B p.x.ds.length a.cb, .int .i64 p.x.q, .int .i64 p.b.state, .slice a.F p.b.fails.length a.fc, .int .i64 p.b.till, .int .i64 p.fails, .int .i64 p.redial, .int .i64 p.drain]] w fun e w' => e = .returned (.int .i64 (wants p)) ∧ Below w.heap.size w w' := by
  have H := Lib.hid h
  have HR := Lib.hid hR
  have Hn := Lib.hid hn
  clear h hR hn
  have Hw : Hid (wants p = min (max ((cnt p.cs 3 : Int) + (llA p.x).length) (p.c 0)) (p.c 1)) := Lib.hid rfl
  have f1 : cnt p.cs 3 ≤ 1048576 := Nat.le_trans (cnt_le _ _) Hn.out.cs
  have f2 : (llA p.x).length ≤ 60 := ll_few p.x
  have hw0 : IntKind.i64.wrap ((cnt p.cs 3 : Int) + ((llA p.x).length : Int)) = (cnt p.cs 3 : Int) + ((llA p.x).length : Int) := IntWalk.i64_in _ (by omega)
  generalize wants p = z at Hw ⊢
  go_enter Try.func18, Try.ntmps18
  go_wp2_with fail
  obtain ⟨w1, hw1⟩ : ∃ w1, w.alloc (.cells #[.int .i64 (p.c 0), .int .i64 (p.c 1), .int .i64 (p.c 2), .int .i64 (p.c 3), .int .i64 (p.c 4), .int .i64 (p.c 5), .int .i64 (p.c 6), .int .i64 (p.c 7), .int .i64 (p.c 8), .int .i64 (p.c 9), .int .i64 (p.c 10), .int .i64 (p.c 11), .int .i64 (p.c 12), .int .i64 (p.c 13), .int .i64 p.now, .int .i64 p.mode, .int .i64 p.nc, .int .i64 p.nt, .slice a.C p.cs.length a.cc, .slice a.A p.x.s.ss.length a.ca, .int .i64 p.x.s.f, .int .i64 p.x.s.l, .int .i64 p.x.s.r, .int .i64 p.x.s.c, .slice a.B p.x.ds.length a.cb, .int .i64 p.x.q, .int .i64 p.b.state, .slice a.F p.b.fails.length a.fc, .int .i64 p.b.till, .int .i64 p.fails, .int .i64 p.redial, .int .i64 p.drain] 38) = w1 := ⟨_, rfl⟩
  have B1 : Hid (Below w.heap.size w w1) := by rw [← hw1]; exact bel_alloc _ _
  have K : Hid (Bx w1 w.heap.size 38 #[.int .i64 (p.c 0), .int .i64 (p.c 1), .int .i64 (p.c 2), .int .i64 (p.c 3), .int .i64 (p.c 4), .int .i64 (p.c 5), .int .i64 (p.c 6), .int .i64 (p.c 7), .int .i64 (p.c 8), .int .i64 (p.c 9), .int .i64 (p.c 10), .int .i64 (p.c 11), .int .i64 (p.c 12), .int .i64 (p.c 13), .int .i64 p.now, .int .i64 p.mode, .int .i64 p.nc, .int .i64 p.nt, .slice a.C p.cs.length a.cc, .slice a.A p.x.s.ss.length a.ca, .int .i64 p.x.s.f, .int .i64 p.x.s.l, .int .i64 p.x.s.r, .int .i64 p.x.s.c, .slice a.B p.x.ds.length a.cb, .int .i64 p.x.q, .int .i64 p.b.state, .slice a.F p.b.fails.length a.fc, .int .i64 p.b.till, .int .i64 p.fails, .int .i64 p.redial, .int .i64 p.drain]) := by rw [← hw1]; exact Bx.new _ _ _
  rw [hw1]
  clear hw1
  have HS : Hid (Bx w1.drew w.heap.size 38 #[.int .i64 (p.c 0), .int .i64 (p.c 1), .int .i64 (p.c 2), .int .i64 (p.c 3), .int .i64 (p.c 4), .int .i64 (p.c 5), .int .i64 (p.c 6), .int .i64 (p.c 7), .int .i64 (p.c 8), .int .i64 (p.c 9), .int .i64 (p.c 10), .int .i64 (p.c 11), .int .i64 (p.c 12), .int .i64 (p.c 13), .int .i64 p.now, .int .i64 p.mode, .int .i64 p.nc, .int .i64 p.nt, .slice a.C p.cs.length a.cc, .slice a.A p.x.s.ss.length a.ca, .int .i64 p.x.s.f, .int .i64 p.x.s.l, .int .i64 p.x.s.r, .int .i64 p.x.s.c, .slice a.B p.x.ds.length a.cb, .int .i64 p.x.q, .int .i64 p.b.state, .slice a.F p.b.fails.length a.fc, .int .i64 p.b.till, .int .i64 p.fails, .int .i64 p.redial, .int .i64 p.drain]) := K.out
  refine wp_region_held_drew (S := fun V => Bx V w.heap.size 38 #[.int .i64 (p.c 0), .int .i64 (p.c 1), .int .i64 (p.c 2), .int .i64 (p.c 3), .int .i64 (p.c 4), .int .i64 (p.c 5), .int .i64 (p.c 6), .int .i64 (p.c 7), .int .i64 (p.c 8), .int .i64 (p.c 9), .int .i64 (p.c 10), .int .i64 (p.c 11), .int .i64 (p.c 12), .int .i64 (p.c 13), .int .i64 p.now, .int .i64 p.mode, .int .i64 p.nc, .int .i64 p.nt, .slice a.C p.cs.length a.cc, .slice a.A p.x.s.ss.length a.ca, .int .i64 p.x.s.f, .int .i64 p.x.s.l, .int .i64 p.x.s.r, .int .i64 p.x.s.c, .slice a.B p.x.ds.length a.cb, .int .i64 p.x.q, .int .i64 p.b.state, .slice a.F p.b.fails.length a.fc, .int .i64 p.b.till, .int .i64 p.fails, .int .i64 p.redial, .int .i64 p.drain]) (by kernel_rfl) HS.out (fun _ => ?_)
  refine wpAnyH_take (i := 0) (v := .agg #[.int .i64 (p.c 0), .int .i64 (p.c 1), .int .i64 (p.c 2), .int .i64 (p.c 3), .int .i64 (p.c 4), .int .i64 (p.c 5), .int .i64 (p.c 6), .int .i64 (p.c 7), .int .i64 (p.c 8), .int .i64 (p.c 9), .int .i64 (p.c 10), .int .i64 (p.c 11), .int .i64 (p.c 12), .int .i64 (p.c 13), .int .i64 p.now, .int .i64 p.mode, .int .i64 p.nc, .int .i64 p.nt, .slice a.C p.cs.length a.cc, .slice a.A p.x.s.ss.length a.ca, .int .i64 p.x.s.f, .int .i64 p.x.s.l, .int .i64 p.x.s.r, .int .i64 p.x.s.c, .slice a.B p.x.ds.length a.cb, .int .i64 p.x.q, .int .i64 p.b.state, .slice a.F p.b.fails.length a.fc, .int .i64 p.b.till, .int .i64 p.fails, .int .i64 p.redial, .int .i64 p.drain]) rfl (by kernel_rfl) (by kernel_rfl) (by kernel_rfl) (fun _ _ _ h => h) (yieldsIf_load_mid rfl 38 (.tmp 1) rfl w.heap.size 0 rfl [.int .i64 (p.c 0), .int .i64 (p.c 1), .int .i64 (p.c 2), .int .i64 (p.c 3), .int .i64 (p.c 4), .int .i64 (p.c 5), .int .i64 (p.c 6), .int .i64 (p.c 7), .int .i64 (p.c 8), .int .i64 (p.c 9), .int .i64 (p.c 10), .int .i64 (p.c 11), .int .i64 (p.c 12), .int .i64 (p.c 13), .int .i64 p.now, .int .i64 p.mode, .int .i64 p.nc, .int .i64 p.nt, .slice a.C p.cs.length a.cc, .slice a.A p.x.s.ss.length a.ca, .int .i64 p.x.s.f, .int .i64 p.x.s.l, .int .i64 p.x.s.r, .int .i64 p.x.s.c, .slice a.B p.x.ds.length a.cb, .int .i64 p.x.q, .int .i64 p.b.state, .slice a.F p.b.fails.length a.fc, .int .i64 p.b.till, .int .i64 p.fails, .int .i64 p.redial, .int .i64 p.drain] _ (fun V hS => bx_range hS) Try.underlying38 rfl (by kernel_rfl)) HS.out ?_
  go_simp
  refine wpAnyH_take (i := 2) (v := (.pointer (some ⟨w.heap.size, 19, none⟩))) rfl (by kernel_rfl) (by kernel_rfl) (by kernel_rfl) (fun _ _ _ h => h) (.inl ⟨rfl, fun V hS => ?y0⟩) HS.out ?_
  case y0 =>
    clear hS
    go_simp
  go_simp
  refine wpAnyH_take (i := 3) (v := .agg #[.slice a.A p.x.s.ss.length a.ca, .int .i64 p.x.s.f, .int .i64 p.x.s.l, .int .i64 p.x.s.r, .int .i64 p.x.s.c, .slice a.B p.x.ds.length a.cb, .int .i64 p.x.q]) rfl (by kernel_rfl) (by kernel_rfl) (by kernel_rfl) (fun _ _ _ h => h) (yieldsIf_load_mid rfl 33 (.tmp 6) rfl w.heap.size 19 rfl [.slice a.A p.x.s.ss.length a.ca, .int .i64 p.x.s.f, .int .i64 p.x.s.l, .int .i64 p.x.s.r, .int .i64 p.x.s.c, .slice a.B p.x.ds.length a.cb, .int .i64 p.x.q] _ (fun V hS => bx_part [.int .i64 (p.c 0), .int .i64 (p.c 1), .int .i64 (p.c 2), .int .i64 (p.c 3), .int .i64 (p.c 4), .int .i64 (p.c 5), .int .i64 (p.c 6), .int .i64 (p.c 7), .int .i64 (p.c 8), .int .i64 (p.c 9), .int .i64 (p.c 10), .int .i64 (p.c 11), .int .i64 (p.c 12), .int .i64 (p.c 13), .int .i64 p.now, .int .i64 p.mode, .int .i64 p.nc, .int .i64 p.nt, .slice a.C p.cs.length a.cc] [.slice a.A p.x.s.ss.length a.ca, .int .i64 p.x.s.f, .int .i64 p.x.s.l, .int .i64 p.x.s.r, .int .i64 p.x.s.c, .slice a.B p.x.ds.length a.cb, .int .i64 p.x.q] [.int .i64 p.b.state, .slice a.F p.b.fails.length a.fc, .int .i64 p.b.till, .int .i64 p.fails, .int .i64 p.redial, .int .i64 p.drain] hS) Try.underlying33 rfl (by kernel_rfl)) HS.out ?_
  go_simp
  refine wpAnyH_ready (rs := [1]) (by kernel_rfl) (by simp) (AllReadyH.cons rfl (fun J hJ => ?_) AllReadyH.nil)
  go_simp
  refine (specCount_any a p 3 R w1.drew Hn.out.cs (H.out.cs.below B1.out.drew HR.out.c') (Nat.le_trans HR.out.c' B1.out.size)).mono ?_
  rintro e w2 ⟨rfl, b2⟩
  have B2 := Lib.hid (bel_trans B1.out (bel_of_drew b2))
  have HS2 : Hid (Bx w2 w.heap.size 38 #[.int .i64 (p.c 0), .int .i64 (p.c 1), .int .i64 (p.c 2), .int .i64 (p.c 3), .int .i64 (p.c 4), .int .i64 (p.c 5), .int .i64 (p.c 6), .int .i64 (p.c 7), .int .i64 (p.c 8), .int .i64 (p.c 9), .int .i64 (p.c 10), .int .i64 (p.c 11), .int .i64 (p.c 12), .int .i64 (p.c 13), .int .i64 p.now, .int .i64 p.mode, .int .i64 p.nc, .int .i64 p.nt, .slice a.C p.cs.length a.cc, .slice a.A p.x.s.ss.length a.ca, .int .i64 p.x.s.f, .int .i64 p.x.s.l, .int .i64 p.x.s.r, .int .i64 p.x.s.c, .slice a.B p.x.ds.length a.cb, .int .i64 p.x.q, .int .i64 p.b.state, .slice a.F p.b.fails.length a.fc, .int .i64 p.b.till, .int .i64 p.fails, .int .i64 p.redial, .int .i64 p.drain]) := HS.out.below b2
  clear b2
  refine hJ.out _ _ HS2.out (fun _ => ?_)
  clear hJ J
  go_simp
  refine wpAnyH_ready (rs := [4]) (by kernel_rfl) (by simp) (AllReadyH.cons rfl (fun J hJ => ?_) AllReadyH.nil)
  go_simp
  refine (specList_any a.A a.ca p.x a.B a.cb R.L w2 Hn.out.s Hn.out.h (H.out.x.below B2.out HR.out.L) (HR.out.L.wide (Nat.le_refl _) B2.out.size)).mono ?_
  rintro e w3 ⟨G, cg, rfl, v3, b3⟩
  have B3 := Lib.hid (bel_trans B2.out b3)
  have HS3 : Hid (Bx w3 w.heap.size 38 #[.int .i64 (p.c 0), .int .i64 (p.c 1), .int .i64 (p.c 2), .int .i64 (p.c 3), .int .i64 (p.c 4), .int .i64 (p.c 5), .int .i64 (p.c 6), .int .i64 (p.c 7), .int .i64 (p.c 8), .int .i64 (p.c 9), .int .i64 (p.c 10), .int .i64 (p.c 11), .int .i64 (p.c 12), .int .i64 (p.c 13), .int .i64 p.now, .int .i64 p.mode, .int .i64 p.nc, .int .i64 p.nt, .slice a.C p.cs.length a.cc, .slice a.A p.x.s.ss.length a.ca, .int .i64 p.x.s.f, .int .i64 p.x.s.l, .int .i64 p.x.s.r, .int .i64 p.x.s.c, .slice a.B p.x.ds.length a.cb, .int .i64 p.x.q, .int .i64 p.b.state, .slice a.F p.b.fails.length a.fc, .int .i64 p.b.till, .int .i64 p.fails, .int .i64 p.redial, .int .i64 p.drain]) := HS2.out.below b3
  clear b3 v3 HS HS2
  have HS := HS3
  refine hJ.out _ _ HS.out (fun _ => ?_)
  clear hJ J
  go_simp
  refine wpAnyH_take (i := 5) (v := (.int .i64 (llA p.x).length)) rfl (by kernel_rfl) (by kernel_rfl) (by kernel_rfl) (fun _ _ _ h => h) (.inl ⟨rfl, fun V hS => ?y0⟩) HS.out ?_
  case y0 =>
    clear hS
    go_simp
  go_simp
  refine wpAnyH_take (i := 6) (v := (.int .i64 ((cnt p.cs 3 : Int) + (llA p.x).length))) rfl (by kernel_rfl) (by kernel_rfl) (by kernel_rfl) (fun _ _ _ h => h) (.inl ⟨rfl, fun V hS => ?y0⟩) HS.out ?_
  case y0 =>
    clear hS
    go_simp
  go_simp
  refine wpAnyH_ready (rs := [7]) (by kernel_rfl) (by simp) (AllReadyH.cons rfl (fun J hJ => ?_) AllReadyH.nil)
  go_simp
  refine hJ.out _ _ HS.out (fun _ => ?_)
  clear hJ J
  refine wpAnyH_done (by kernel_rfl) ?_ _
  obtain ⟨q0, q1⟩ : w3.cell? ⟨w.heap.size, 0, none⟩ = some (.int .i64 (p.c 0)) ∧ w3.cell? ⟨w.heap.size, 1, none⟩ = some (.int .i64 (p.c 1)) := ⟨HS.out.cell 0, HS.out.cell 1⟩
  clear HS HS3
  generalize hm : (cnt p.cs 3 : Int) + (llA p.x).length = m at Hw ⊢
  by_cases h1 : m < p.c 0
  · by_cases h2 : p.c 1 < p.c 0
    · go_wp2
      go_ret
      exact ⟨ret_int (by rw [Hw.out]; omega), B3.out⟩
    · go_wp2
      go_ret
      exact ⟨ret_int (by rw [Hw.out]; omega), B3.out⟩
  · by_cases h2 : p.c 1 < m
    · go_wp2
      go_ret
      exact ⟨ret_int (by rw [Hw.out]; omega), B3.out⟩
    · go_wp2
      go_ret
      exact ⟨ret_int (by rw [Hw.out]; omega), B3.out⟩
end Go.Proofs.Ytehdbdolhkflcaa.Po
