/- DrawPlayHeap draws some list of operations, at most 301. -/
import Derived.Test.YtnmhdbfemobhkaaHd2
namespace Go.Proofs.Ytnmhdbfemobhkaa.Hp
open Go.RowKit Go.Deep Base Draw

theorem size_any (A : Option Addr) (n cap : Nat) (w : World) (hn : n ≤ 1048576) :
    Calls Try.prog 47 #[.slice A n cap, .int .i64 60] w fun e w' => (∃ x, e = .returned (.int .i64 x) ∧ 2 ≤ x ∧ x ≤ 60) ∧ w = w' := by
  obtain ⟨p, hp⟩ : ∃ p : Nat, n / 16 = p := ⟨_, rfl⟩
  have hd : ((n : Int)).tdiv 16 = (p : Int) := by
    rw [Int.tdiv_eq_ediv_of_nonneg (by omega)]; omega
  have hp1 : p ≤ 1048576 := by omega
  clear hp
  have h1 : 0 ≤ (2 : Int) + (p : Int) ∧ (2 : Int) + (p : Int) ≤ 1048578 := by omega
  have hw : IntKind.i64.wrap (p : Int) = (p : Int) := IntWalk.i64_in _ (by omega)
  have hw2 : IntKind.i64.wrap (2 + (p : Int)) = 2 + (p : Int) := IntWalk.i64_in _ (by omega)
  by_cases h60 : (60 : Int) < 2 + (p : Int)
  · go_enter Try.func47, Try.ntmps47
    go_wp2
    go_ret
    exact ⟨⟨60, rfl, by omega, by omega⟩, rfl⟩
  · go_enter Try.func47, Try.ntmps47
    go_wp2
    go_ret
    exact ⟨⟨_, rfl, by omega, by omega⟩, rfl⟩

theorem OpSt.rs {w wr : World} {g : Nat} {A : Option Addr} {n cap : Nat} {zs : List Int} {rs : List Dr} {v : Value} (h : OpSt w wr g A n cap zs rs v) :
    ∃ b c, v = .slice (some ⟨b, 0, none⟩) rs.length c ∧ b < wr.heap.size ∧ RS wr wr.heap.size b (fun i => (rs.getD i ⟨0, 0, []⟩).blk) (fun i => (rs.getD i ⟨0, 0, []⟩).room) (rs.map Dr.ints) ∧ ∀ i, i < rs.length → ((rs.map Dr.ints).getD i []).length ≤ 3 := by
  obtain ⟨b, c, rfl⟩ := h.lies
  have hlt := (h.own.lt b rfl).2
  have hg : ∀ i, i < rs.length → (rs.map Dr.ints).getD i [] = (rs.getD i ⟨0, 0, []⟩).ints := fun i hi => by simp [List.getD_eq_getElem?_getD, hi]
  have hm : ∀ i, i < rs.length → rs.getD i ⟨0, 0, []⟩ ∈ rs := fun i hi => by
    have e : rs.getD i ⟨0, 0, []⟩ = rs[i] := by simp [List.getD_eq_getElem?_getD, hi]
    rw [e]
    exact List.getElem_mem hi
  refine ⟨b, c, rfl, hlt, ⟨fun i hi => ?_, fun i hi => ?_, hlt, fun i hi => ?_, fun i hi => ?_⟩, fun i hi => ?_⟩
  · rw [List.length_map] at hi
    rw [h.own.cellAt i (by omega), hg i hi]
    simp [List.getD_eq_getElem?_getD, hi, Dr.val]
  · rw [List.length_map] at hi
    rw [hg i hi]
    exact (h.each _ (hm i hi)).1
  · rw [List.length_map] at hi
    exact (h.each _ (hm i hi)).2.2.1
  · rw [List.length_map] at hi
    rw [hg i hi]
    exact (h.each _ (hm i hi)).2.2.2.2.1
  · rw [hg i hi]
    exact (h.each _ (hm i hi)).2.2.2.2.2

/-- What the draw leaves. -/
def DrawEnd (w : World) (e : Ending) (w' : World) : Prop :=
  ∃ g c zss B C, e = .returned (.slice (some ⟨g, 0, none⟩) zss.length c) ∧ zss.length ≤ 301 ∧ (∀ i, i < zss.length → (zss.getD i []).length ≤ 3) ∧ RS w' w'.heap.size g B C zss ∧ Below w.heap.size w w'
theorem OpSt.fin {w w1 wr : World} {A : Option Addr} {n cap : Nat} {zs : List Int} {rs : List Dr} {v : Value} (h : OpSt w1 wr w.heap.size A n cap zs rs v) (hl : rs.length ≤ 301) (hb : Below w.heap.size w w1) (hz : w.heap.size < w1.heap.size) : DrawEnd w (.returned v) wr := by
  obtain ⟨b, c, rfl, h1, h2, h3⟩ := h.rs
  refine ⟨b, c, rs.map Dr.ints, _, _, by rw [List.length_map], by rw [List.length_map]; exact hl, fun i hi => h3 i (by rwa [List.length_map] at hi), h2, ?_⟩
  exact hb.trans ((grown_below h.old (B := w.heap.size) (by omega) (Nat.le_refl _)))

set_option maxHeartbeats 1000000 in
theorem drawPlay_any (A : Option Addr) (n cap : Nat) (zs : List Int) (w : World) (hn : zs.length = n) (hs : n ≤ 1048576) (hb : Bytes w w.heap.size A zs) :
    Calls Try.prog 13 #[.slice A n cap] w (DrawEnd w) := by
  have HB := Lib.hid hb
  have HN := Lib.hid hn
  clear hb hn
  go_enter Try.func13, Try.ntmps13
  go_wp2_with fail
  refine (new_any A n cap zs w HN.out hs HB.out).mono ?_
  rintro e w1 ⟨rfl, hc1, hb1⟩
  have H1 := Lib.hid hc1
  have B1 := Lib.hid hb1
  have hz1 : w.heap.size < w1.heap.size := hc1.lt
  clear hc1 hb1
  go_wp2_with fail
  refine (size_any A n cap w1 hs).mono ?_
  rintro e w1' ⟨⟨x, rfl, hx0, hx1⟩, rfl⟩
  go_wp2_with fail
  refine (below_any w.heap.size A n cap zs x w1 H1.out).mono ?_
  rintro e w2 ⟨m, rfl, hm, hc2, hg2⟩
  obtain ⟨m0, m1⟩ := hm.2 (by omega)
  have H2 := Lib.hid hc2
  have B2 := Lib.hid (B1.out.trans (grown_below hg2 (B := w.heap.size) (by omega) (Nat.le_refl _)))
  have hz2 : w.heap.size < w2.heap.size := hc2.lt
  clear hc2 hg2 hm
  go_wp2_with fail
  refine (once_any w.heap.size A n cap zs 40 w2 H2.out).mono ?_
  rintro e w3 ⟨o, rfl, hc3, hg3⟩
  have H3 := Lib.hid hc3
  have B3 := Lib.hid (B2.out.trans (grown_below hg3 (B := w.heap.size) (by omega) (Nat.le_refl _)))
  have hz3 : w.heap.size < w3.heap.size := hc3.lt
  clear hc3 hg3
  cases o
  case false =>
    obtain ⟨k, rfl⟩ := Int.eq_ofNat_of_zero_le m0
    go_wp2_with fail
    refine (drawOps_any w.heap.size A n cap zs k w3 (by omega) H3.out hz3).mono ?_
    rintro e w4 ⟨rs, v, rfl, hl, st⟩
    have HE := Lib.hid (st.fin (by omega) B3.out hz3)
    clear st hl
    go_wp2
    go_ret
    exact HE.out
  go_wp2_with fail
  refine (below_any w.heap.size A n cap zs 2 w3 H3.out).mono ?_
  rintro e w4 ⟨y, rfl, hy, hc4, hg4⟩
  obtain ⟨y0, y1⟩ := hy.2 (by decide)
  have H4 := Lib.hid hc4
  have B4 := Lib.hid (B3.out.trans (grown_below hg4 (B := w.heap.size) (by omega) (Nat.le_refl _)))
  have hz4 : w.heap.size < w4.heap.size := hc4.lt
  clear hc4 hg4 hy
  obtain ⟨k, rfl⟩ := Int.eq_ofNat_of_zero_le y0
  go_wp2_with fail
  have hk : (300 : Int) + (k : Int) = ((300 + k : Nat) : Int) := by omega
  have HD := drawOps_any w.heap.size A n cap zs (300 + k) w4 (by omega) H4.out hz4
  rw [← hk] at HD
  refine HD.mono ?_
  rintro e w5 ⟨rs, v, rfl, hl, st⟩
  have HE := Lib.hid (st.fin (by omega) B4.out hz4)
  clear st hl HD hk
  go_wp2
  go_ret
  exact HE.out
end Go.Proofs.Ytnmhdbfemobhkaa.Hp
