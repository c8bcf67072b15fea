/- The program's history of a breaker. -/
import Derived.Test.YtmmoelijpemlfaaHi2
import Derived.Deep.DeepCutAuto
namespace Go.Proofs.Ytmmoelijpemlfaa.Bk
open Go.RowKit Go.Deep Base Rw Tick Cf

/-- Whether there is a history. -/
def canH (c : Nat → Int) (evs : List (Int × Int)) : Bool := okC c && decide (evs.length ≤ 300)

/-- What comes back of a history: the two rows, in new memory. -/
def HistEnd (w : World) (c : Nat → Int) (evs : List (Int × Int)) (v va : Value) (w' : World) : Prop :=
  ∃ B W es ts, w.heap.size ≤ B ∧ Below w.heap.size w W ∧ HSt B W w' v va es ts ∧ Hist c evs evs.length es ts ∧ B ≤ W.heap.size

theorem RowE.keep {w w' : World} {B : Nat} {e : En} {v va : Value} (h : RowE w B e v va) (hb : Below w.heap.size w w') : RowE w' B e v va := fun hp => by
  obtain ⟨g, h1, h2, h3, h4, h5, h6⟩ := h hp
  exact ⟨g, h1, h2, Nat.lt_of_lt_of_le h3 hb.size, h4.of_block (hb.block g h3), h5, h6⟩
theorem rowE_new {Wa V V' : World} {B : Nat} {r : Br × Int} {A2 A3 : Option Addr} {c2 c3 : Nat} {b : Br} {v va : Value} (hB : B ≤ Wa.heap.size) (hold : RowE Wa B ⟨b, A2, c2⟩ v va) (hv : ∀ x, v.ownBlock = some x → x < Wa.heap.size) (hva : ∀ x, va.ownBlock = some x → x < Wa.heap.size)
    (hWa : Below Wa.heap.size Wa V) (hV : Below V.heap.size V V') (hor : IV V' V.heap.size V'.heap.size A3 r.1.fails ∨ (A3 = A2 ∧ c3 = c2 ∧ r.1 = b)) :
    RowE V' B ⟨r.1, A3, c3⟩ v va ∧ ∀ g9, A3 = some ⟨g9, 0, none⟩ → 0 < r.1.fails.length → g9 < Wa.heap.size ∨ (V.heap.size ≤ g9 ∧ g9 < V'.heap.size) := by
  have hz := hWa.size
  have hz2 := hV.size
  rcases hor with hor | ⟨e1, e2, e3⟩
  · refine ⟨fun hp => ?_, fun g9 e hp => ?_⟩
    · obtain ⟨g, h1, h2, h3, h4⟩ := hor hp
      exact ⟨g, h1, by omega, h3, h4, fun e => by have := hv g e.symm; omega, fun e => by have := hva g e.symm; omega⟩
    · obtain ⟨g, h1, h2, h3, h4⟩ := hor hp
      rw [h1] at e
      injection e with e
      injection e with e
      subst e
      exact .inr ⟨h2, h3⟩
  · subst e1 e2 e3
    refine ⟨(hold.keep hWa).keep hV, fun g9 e hp => ?_⟩
    obtain ⟨g, h1, h2, h3, _⟩ := hold hp
    dsimp only at h1
    rw [h1] at e
    injection e with e
    injection e with e
    subst e
    exact .inl h3

set_option maxRecDepth 100000 in
set_option maxHeartbeats 4000000 in
theorem implHist_any (c : Nat → Int) (A : Option Addr) (n cap : Nat) (evs : List (Int × Int)) (w : World) (hn : evs.length = n) (hm : n ≤ 1048576) (h : EvI w A evs) :
    Calls Try.prog 48 #[.agg #[.int .i64 (c 0), .int .i64 (c 1), .int .i64 (c 2), .int .i64 (c 3), .int .i64 (c 4), .int .i64 (c 5), .int .i64 (c 6), .int .i64 (c 7), .int .i64 (c 8), .int .i64 (c 9), .int .i64 (c 10), .int .i64 (c 11), .int .i64 (c 12), .int .i64 (c 13)], .slice A n cap] w fun e w' => Below w.heap.size w w' ∧ ((canH c evs = false ∧ e = .returned (.tuple #[.slice none 0 0, .slice none 0 0, .bool false])) ∨ (canH c evs = true ∧ ∃ v va, e = .returned (.tuple #[v, va, .bool true]) ∧ HistEnd w c evs v va w')) := by
  have Hn := Lib.hid hn
  have HE := Lib.hid h
  clear h hn
  go_enter Try.func48, Try.ntmps48
  go_wp2_with fail
  obtain ⟨W0, hW0⟩ : ∃ W0, w.alloc (.cells #[.int .i64 (c 0), .int .i64 (c 1), .int .i64 (c 2), .int .i64 (c 3), .int .i64 (c 4), .int .i64 (c 5), .int .i64 (c 6), .int .i64 (c 7), .int .i64 (c 8), .int .i64 (c 9), .int .i64 (c 10), .int .i64 (c 11), .int .i64 (c 12), .int .i64 (c 13)] 25) = W0 := ⟨_, rfl⟩
  have B : Hid (Below w.heap.size w W0) := by rw [← hW0]; exact bel_alloc _ _
  have z0 : w.heap.size < W0.heap.size := by rw [← hW0]; simp
  have K : Hid (W0.heap[w.heap.size]? = some (.cells #[.int .i64 (c 0), .int .i64 (c 1), .int .i64 (c 2), .int .i64 (c 3), .int .i64 (c 4), .int .i64 (c 5), .int .i64 (c 6), .int .i64 (c 7), .int .i64 (c 8), .int .i64 (c 9), .int .i64 (c 10), .int .i64 (c 11), .int .i64 (c 12), .int .i64 (c 13)] 25 (0, 0))) := by rw [← hW0]; exact heap_alloc_new w _
  rw [hW0]
  clear hW0
  refine (implConfigOk_any c _).mono ?_
  rintro e w1 ⟨rfl, b1⟩
  replace B := Lib.hid (bel_trans B.out b1)
  replace K := Lib.hid ((b1.block _ z0).trans K.out)
  have z1 : w.heap.size < w1.heap.size := Nat.lt_of_lt_of_le z0 b1.size
  clear b1 z0
  cases hok : okC c
  · have Hc : Hid (canH c evs = false) := by show _ = _; unfold canH; rw [hok]; rfl
    clear hok
    go_wp2
    exact bodyPost_ret (v := .tuple #[.slice none 0 0, .slice none 0 0, .bool false]) (by simp [results, Try.results48, go_sem]) rfl ⟨B.out, .inl ⟨Hc.out, rfl⟩⟩
  by_cases hl : 300 < n
  · have Hc : Hid (canH c evs = false) := by show _ = _; unfold canH; rw [Hn.out, decide_eq_false (by omega)]; simp
    clear hok
    go_wp2
    exact bodyPost_ret (v := .tuple #[.slice none 0 0, .slice none 0 0, .bool false]) (by simp [results, Try.results48, go_sem]) rfl ⟨B.out, .inl ⟨Hc.out, rfl⟩⟩
  have Hc : Hid (canH c evs = true) := by show _ = _; unfold canH; rw [hok, Hn.out, decide_eq_true (by omega)]; rfl
  clear hok
  have hl3 : ¬ (300 : Int) < (n : Int) := by omega
  obtain ⟨i0, hi0, hz0, hz1, hz2⟩ := info_parts infoInt
  have Hi0 := Lib.hid hi0
  have Hz0 := Lib.hid hz0
  have Hz1 := Lib.hid hz1
  have Hz2 := Lib.hid hz2
  clear hi0 hz0 hz1 hz2
  obtain ⟨j0, hi0, hz0, hz1, hz2⟩ := info_parts infoBreaker
  have Hj0 := Lib.hid hi0
  have Hy0 := Lib.hid hz0
  have Hy1 := Lib.hid hz1
  have Hy2 := Lib.hid hz2
  clear hi0 hz0 hz1 hz2
  go_wp2
  go_loopw [7, 8, 25] (fun x y i wr => ∃ (v va : Value) (k : Nat) (es : List En) (ts : List Int), v = x ∧ va = y ∧ k ≤ n ∧ i = .int .i64 k ∧ HSt w1.heap.size w1 wr v va es ts ∧ Hist c evs k es ts) (fun _ _ i _ => n - (intOf i).toNat)
  case atStart => exact ⟨_, _, 0, [zEn], [], rfl, rfl, Nat.zero_le _, rfl, HSt.first w1, Hist.zero c evs⟩
  case round =>
    obtain ⟨v, va, k, es, ts, rfl, rfl, hk, rfl, hst, hhi⟩ := hrel
    have Hst := Lib.hid hst
    have Hhi := Lib.hid hhi
    clear hst hhi
    have HB := Lib.hid (bel_trans B.out Hst.out.old)
    have zr : w1.heap.size ≤ wr.heap.size := Hst.out.old.size
    by_cases hlt : k < n
    · obtain ⟨ge, off, rfl, hc⟩ := HE.out.below HB.out (by have := Hn.out; omega)
      obtain ⟨c0, c1⟩ := hc k (by have := Hn.out; omega)
      clear hc
      obtain ⟨⟨kd, now⟩, hev⟩ : ∃ ev, evs.getD k (0, 0) = ev := ⟨_, rfl⟩
      rw [hev] at c0 c1
      dsimp only at c0 c1
      have Hev := Lib.hid hev
      clear hev
      obtain ⟨g, cp, hv, hgl, hgh, hcells⟩ := Hst.out.at (i := k) (by rw [Hhi.out.len]; omega)
      obtain ⟨y0, y1, y2⟩ := hcells k (by rw [Hhi.out.len]; omega)
      clear hcells
      have hlen : es.length = k + 1 := Hhi.out.len
      rw [hlen] at hv
      subst hv
      have hrow := Hst.out.rows k (by omega)
      obtain ⟨⟨⟨s, zs, u⟩, A2, c2⟩, hen⟩ : ∃ en, es.getD k zEn = en := ⟨_, rfl⟩
      rw [hen] at y0 y1 y2 hrow
      dsimp only at y0 y1 y2
      have hbr : (⟨s, zs, u⟩ : Br) = hB c evs k := by have := Hhi.out.each k (Nat.le_refl _); rw [hen] at this; exact this
      have hzl : zs.length ≤ 20 := by
        have h1 := run_ok (c := c) (evs.take k) zBr_ok
        have h2 : OkB (hB c evs k) := h1
        rw [← hbr] at h2
        exact h2.few
      have Hbr := Lib.hid hbr
      have Hrow := Lib.hid hrow
      clear hen hrow hbr
      have hk0 : (0 : Int) ≤ (k : Int) := by omega
      have hk1 : (k : Int) < (k : Int) + 1 := by omega
      have hk2 : (k : Int) < (n : Int) := by omega
      go_wp2_with fail
      obtain ⟨Wa, hWa⟩ : ∃ Wa, wr.alloc (.cells #[.int .i64 kd, .int .i64 now] 87) = Wa := ⟨_, rfl⟩
      have ba : Below wr.heap.size wr Wa := by rw [← hWa]; exact bel_alloc _ _
      have EB : Hid (Wa.heap[wr.heap.size]? = some (.cells #[.int .i64 kd, .int .i64 now] 87 (0, 0))) := by rw [← hWa]; exact heap_alloc_new wr _
      have za : wr.heap.size < Wa.heap.size := by rw [← hWa]; simp
      rw [hWa]
      clear hWa
      have Hsa := Lib.hid (Hst.out.keep ba)
      have KA : Hid (Wa.heap[w.heap.size]? = some (.cells #[.int .i64 (c 0), .int .i64 (c 1), .int .i64 (c 2), .int .i64 (c 3), .int .i64 (c 4), .int .i64 (c 5), .int .i64 (c 6), .int .i64 (c 7), .int .i64 (c 8), .int .i64 (c 9), .int .i64 (c 10), .int .i64 (c 11), .int .i64 (c 12), .int .i64 (c 13)] 25 (0, 0))) := (ba.block _ (by omega)).trans ((Hst.out.old.block _ z1).trans K.out)
      have Y0 := Lib.hid (bkeep y0 ba)
      have Y1 := Lib.hid (bkeep y1 ba)
      have Y2 := Lib.hid (bkeep y2 ba)
      have Hrow2 : Hid (RowE Wa w1.heap.size ⟨⟨s, zs, u⟩, A2, c2⟩ (.slice (some ⟨g, 0, none⟩) (k + 1) cp) va) := fun hp => by
        obtain ⟨g9, h1, h2, h3, h4, h5, h6⟩ := Hrow.out hp
        exact ⟨g9, h1, h2, by omega, h4.of_block (ba.block g9 h3), h5, h6⟩
      have HBa := Lib.hid (bel_trans HB.out ba)
      clear ba y0 y1 y2 c0 c1 Hst Hrow
      obtain ⟨r, hr⟩ : ∃ r, stepR c ⟨s, zs, u⟩ (kd, now) = r := ⟨_, rfl⟩
      have HTE : Hid (∀ V, Below Wa.heap.size Wa V → Calls Try.prog 68 #[.agg #[.int .i64 (c 0), .int .i64 (c 1), .int .i64 (c 2), .int .i64 (c 3), .int .i64 (c 4), .int .i64 (c 5), .int .i64 (c 6), .int .i64 (c 7), .int .i64 (c 8), .int .i64 (c 9), .int .i64 (c 10), .int .i64 (c 11), .int .i64 (c 12), .int .i64 (c 13)], .agg #[.int .i64 s, .slice A2 zs.length c2, .int .i64 u], .agg #[.int .i64 kd, .int .i64 now]] V (EvEnd V A2 c2 ⟨s, zs, u⟩ r)) := fun V hV => by
        have := tellEvent_any c A2 zs.length c2 s u kd now zs V rfl (by omega) (Hrow2.out.iv.ints.below hV)
        rw [hr] at this
        exact this
      have Hr : Hid (stepR c (hB c evs k) (evs.getD k (0, 0)) = r) := by show _ = _; rw [← Hbr.out, Hev.out]; exact hr
      clear hr
      go_cut [11, 12] (fun p b wx => ∃ gg e x, p = .pointer (some ⟨gg, 0, none⟩) ∧ b = .int .i64 x ∧ PB wx gg (.int .i64 e.b.state) (.slice e.A e.b.fails.length e.cap) (.int .i64 e.b.till) ∧ e.b = (stepR c (hB c evs k) (evs.getD k (0, 0))).1 ∧ x = (stepR c (hB c evs k) (evs.getD k (0, 0))).2 ∧ RowE wx w1.heap.size e (.slice (some ⟨g, 0, none⟩) (k + 1) cp) va ∧ Below Wa.heap.size Wa wx ∧ Wa.heap.size ≤ gg)
      case first =>
        have HS : Hid (Below Wa.heap.size Wa Wa.drew) := (Below.refl _ _).drew
        refine wp_region_held_drew (S := Below Wa.heap.size Wa) (by kernel_rfl) HS.out (fun _ => ?_)
        have HVL : Hid (∀ x, (Value.slice (some ⟨g, 0, none⟩) (k + 1) cp).ownBlock = some x → x < Wa.heap.size) := fun x hx => (Hsa.out.own.lt x hx).2
        have HVA : Hid (∀ x, va.ownBlock = some x → x < Wa.heap.size) := fun x hx => (Hsa.out.ans.lt x hx).2
        have hBW : w1.heap.size ≤ Wa.heap.size := by omega
        obtain ⟨v0, hv0⟩ : ∃ W', Wa.drew = W' := ⟨_, rfl⟩
        have zz0 : Wa.heap.size ≤ v0.heap.size := by rw [← hv0]; exact Nat.le_refl _
        rw [hv0] at HS ⊢
        clear hv0
        refine wpAnyH_take (i := 0) (v := .agg #[.int .i64 (c 0), .int .i64 (c 1), .int .i64 (c 2), .int .i64 (c 3), .int .i64 (c 4), .int .i64 (c 5), .int .i64 (c 6), .int .i64 (c 7), .int .i64 (c 8), .int .i64 (c 9), .int .i64 (c 10), .int .i64 (c 11), .int .i64 (c 12), .int .i64 (c 13)]) rfl (by kernel_rfl) (by kernel_rfl) (by kernel_rfl) (fun _ _ _ h => h) (.inl ⟨rfl, fun V hS => ?y0⟩) HS.out ?_
        case y0 =>
          have hk9 := (hS.block _ (by omega)).trans KA.out
          have q0 : V.cell? ⟨w.heap.size, 0, none⟩ = some (.int .i64 (c 0)) := cell_of_row _ _ 0 _ _ (0, 0) hk9
          have q1 : V.cell? ⟨w.heap.size, 1, none⟩ = some (.int .i64 (c 1)) := cell_of_row _ _ 1 _ _ (0, 0) hk9
          have q2 : V.cell? ⟨w.heap.size, 2, none⟩ = some (.int .i64 (c 2)) := cell_of_row _ _ 2 _ _ (0, 0) hk9
          have q3 : V.cell? ⟨w.heap.size, 3, none⟩ = some (.int .i64 (c 3)) := cell_of_row _ _ 3 _ _ (0, 0) hk9
          have q4 : V.cell? ⟨w.heap.size, 4, none⟩ = some (.int .i64 (c 4)) := cell_of_row _ _ 4 _ _ (0, 0) hk9
          have q5 : V.cell? ⟨w.heap.size, 5, none⟩ = some (.int .i64 (c 5)) := cell_of_row _ _ 5 _ _ (0, 0) hk9
          have q6 : V.cell? ⟨w.heap.size, 6, none⟩ = some (.int .i64 (c 6)) := cell_of_row _ _ 6 _ _ (0, 0) hk9
          have q7 : V.cell? ⟨w.heap.size, 7, none⟩ = some (.int .i64 (c 7)) := cell_of_row _ _ 7 _ _ (0, 0) hk9
          have q8 : V.cell? ⟨w.heap.size, 8, none⟩ = some (.int .i64 (c 8)) := cell_of_row _ _ 8 _ _ (0, 0) hk9
          have q9 : V.cell? ⟨w.heap.size, 9, none⟩ = some (.int .i64 (c 9)) := cell_of_row _ _ 9 _ _ (0, 0) hk9
          have q10 : V.cell? ⟨w.heap.size, 10, none⟩ = some (.int .i64 (c 10)) := cell_of_row _ _ 10 _ _ (0, 0) hk9
          have q11 : V.cell? ⟨w.heap.size, 11, none⟩ = some (.int .i64 (c 11)) := cell_of_row _ _ 11 _ _ (0, 0) hk9
          have q12 : V.cell? ⟨w.heap.size, 12, none⟩ = some (.int .i64 (c 12)) := cell_of_row _ _ 12 _ _ (0, 0) hk9
          have q13 : V.cell? ⟨w.heap.size, 13, none⟩ = some (.int .i64 (c 13)) := cell_of_row _ _ 13 _ _ (0, 0) hk9
          clear hk9 hS
          go_simp
        go_simp
        refine wpAnyH_take (i := 1) (v := (.slice (some ⟨g, 0, none⟩) (k + 1) cp)) rfl (by kernel_rfl) (by kernel_rfl) (by kernel_rfl) (fun _ _ _ h => h) (.inl ⟨rfl, fun V hS => ?y0⟩) HS.out ?_
        case y0 =>
          clear hS
          go_simp
        go_simp
        refine wpAnyH_take (i := 2) (v := (.int .i64 k)) rfl (by kernel_rfl) (by kernel_rfl) (by kernel_rfl) (fun _ _ _ h => h) (.inl ⟨rfl, fun V hS => ?y0⟩) HS.out ?_
        case y0 =>
          clear hS
          go_simp
        go_simp
        refine wpAnyH_take (i := 3) (v := (.pointer (some ⟨g, k * 3, none⟩))) rfl (by kernel_rfl) (by kernel_rfl) (by kernel_rfl) (fun _ _ _ h => h) (.inl ⟨rfl, fun V hS => ?y0⟩) HS.out ?_
        case y0 =>
          clear hS
          go_simp
        go_simp
        refine wpAnyH_take (i := 4) (v := .agg #[.int .i64 s, .slice A2 zs.length c2, .int .i64 u]) rfl (by kernel_rfl) (by kernel_rfl) (by kernel_rfl) (fun _ _ _ h => h) (.inl ⟨rfl, fun V hS => ?y1⟩) HS.out ?_
        case y1 =>
          have q0 := bkeep Y0.out hS
          have q1 := bkeep Y1.out hS
          have q2 := bkeep Y2.out hS
          clear hS
          go_simp
        go_simp
        refine wpAnyH_take (i := 5) (v := .agg #[.int .i64 kd, .int .i64 now]) rfl (by kernel_rfl) (by kernel_rfl) (by kernel_rfl) (fun _ _ _ h => h) (.inl ⟨rfl, fun V hS => ?y2⟩) HS.out ?_
        case y2 =>
          have hk9 := (hS.block _ za).trans EB.out
          have q0 : V.cell? ⟨wr.heap.size, 0, none⟩ = some (.int .i64 kd) := cell_of_row _ _ 0 _ _ (0, 0) hk9
          have q1 : V.cell? ⟨wr.heap.size, 1, none⟩ = some (.int .i64 now) := cell_of_row _ _ 1 _ _ (0, 0) hk9
          clear hk9 hS
          go_simp
        go_simp
        refine wpAnyH_ready (rs := [6, 10]) (by kernel_rfl) (by simp) (AllReadyH.cons rfl (fun J hJ => ?_) (AllReadyH.cons rfl (fun J hJ => ?_) AllReadyH.nil))
        · go_simp
          refine (HTE.out _ HS.out).mono ?_
          rintro e v1 ⟨A3, c3, rfl, hor, b3⟩
          have zz1 : v0.heap.size ≤ v1.heap.size := b3.size
          have hrn := rowE_new hBW Hrow2.out HVL.out HVA.out HS.out b3 hor
          have RW0 := Lib.hid hrn.1
          have RN := Lib.hid hrn.2
          replace HS := Lib.hid (HS.out.trans (b3.mono zz0))
          clear hrn hor b3
          refine hJ.out _ _ HS.out (fun _ => ?_)
          clear hJ J
          go_simp
          refine wpAnyH_take (i := 7) (v := (.tuple #[.agg #[.int .i64 r.1.state, .slice A3 r.1.fails.length c3, .int .i64 r.1.till], .int .i64 r.2])) rfl (by kernel_rfl) (by kernel_rfl) (by kernel_rfl) (fun _ _ _ h => h) (.inl ⟨rfl, fun V hS => ?y0⟩) HS.out ?_
          case y0 =>
            clear hS
            go_simp
          go_simp
          refine wpAnyH_take (i := 8) (v := (.agg #[.int .i64 r.1.state, .slice A3 r.1.fails.length c3, .int .i64 r.1.till])) rfl (by kernel_rfl) (by kernel_rfl) (by kernel_rfl) (fun _ _ _ h => h) (.inl ⟨rfl, fun V hS => ?y0⟩) HS.out ?_
          case y0 =>
            clear hS
            go_simp
          go_simp
          refine wpAnyH_take (i := 9) (v := (.int .i64 r.2)) rfl (by kernel_rfl) (by kernel_rfl) (by kernel_rfl) (fun _ _ _ h => h) (.inl ⟨rfl, fun V hS => ?y0⟩) HS.out ?_
          case y0 =>
            clear hS
            go_simp
          go_simp
          refine wpAnyH_ready (rs := [10]) (by kernel_rfl) (by simp) (AllReadyH.cons rfl (fun J hJ => ?_) AllReadyH.nil)
          go_simp
          obtain ⟨v2, hv2⟩ : ∃ W', v1.alloc (.cells #[.int .i64 0, .slice none 0 0, .int .i64 0] 31) = W' := ⟨_, rfl⟩
          have b2 : Below v1.heap.size v1 v2 := by rw [← hv2]; exact bel_alloc _ _
          have G : Hid (PB v2 v1.heap.size (.int .i64 0) (.slice none 0 0) (.int .i64 0)) := by rw [← hv2]; exact heap_alloc_new v1 _
          have zz2 : v1.heap.size < v2.heap.size := G.out.lt
          have RW := Lib.hid (RW0.out.keep b2)
          have hGne : Hid (∀ g9, A3 = some ⟨g9, 0, none⟩ → 0 < r.1.fails.length → g9 ≠ v1.heap.size) := fun g9 e hp => by have := RN.out g9 e hp; omega
          rw [hv2]
          replace HS := Lib.hid (HS.out.trans (b2.mono (by omega)))
          clear hv2 b2 RW0 RN
          refine hJ.out _ _ HS.out (fun _ => ?_)
          clear hJ J
          go_simp
          refine wpAnyH_ready (rs := [11]) (by kernel_rfl) (by simp) (AllReadyH.cons rfl (fun J hJ => ?_) AllReadyH.nil)
          obtain ⟨q0, q1, q2, q3⟩ := G.out.cells
          go_simp
          clear q0 q1 q2 q3
          obtain ⟨v9, hv9⟩ : ∃ W', (((v2).setCell ⟨(v1).heap.size, 0, none⟩ (.int .i64 r.1.state)).setCell ⟨(v1).heap.size, 1, none⟩ (.slice A3 r.1.fails.length c3)).setCell ⟨(v1).heap.size, 2, none⟩ (.int .i64 r.1.till) = W' := ⟨_, rfl⟩
          have GF : Hid (PB v9 (v1).heap.size (.int .i64 r.1.state) (.slice A3 r.1.fails.length c3) (.int .i64 r.1.till)) := by rw [← hv9]; exact ((G.out.set0 _).set1 _).set2 _
          have z9 : (v2).heap.size = v9.heap.size := by rw [← hv9]; simp [World.setCell]
          have RF : Hid (RowE v9 w1.heap.size ⟨r.1, A3, c3⟩ (.slice (some ⟨g, 0, none⟩) (k + 1) cp) va) := by
            intro hp
            obtain ⟨g9, h1, h2, h3, h4, h5, h6⟩ := RW.out hp
            refine ⟨g9, h1, h2, by omega, h4.of_block ?_, h5, h6⟩
            have hne : g9 ≠ (v1).heap.size := hGne.out g9 h1 hp
            rw [← hv9]
            rw [heap_setCell_other _ _ _ _ hne, heap_setCell_other _ _ _ _ hne, heap_setCell_other _ _ _ _ hne]
          replace HS : Hid (Below Wa.heap.size Wa v9) := by rw [← hv9]; exact ((HS.out.setCell (by show Wa.heap.size ≤ (v1).heap.size; omega) _).setCell (by show Wa.heap.size ≤ (v1).heap.size; omega) _).setCell (by show Wa.heap.size ≤ (v1).heap.size; omega) _
          rw [hv9]
          clear hv9
          refine hJ.out _ _ HS.out (fun _ => ?_)
          clear hJ J
          go_simp
          refine wpAnyH_take (i := 12) (v := (.int .i64 r.2)) rfl (by kernel_rfl) (by kernel_rfl) (by kernel_rfl) (fun _ _ _ h => h) (.inl ⟨rfl, fun V hS => ?y0⟩) HS.out ?_
          case y0 =>
            clear hS
            go_simp
          go_simp
          refine wpAnyH_done (by kernel_rfl) ?_ _
          go_wp2
          go_meet
          exact ⟨(v1).heap.size, ⟨r.1, A3, c3⟩, r.2, rfl, rfl, GF.out, by rw [Hr.out], by rw [Hr.out], RF.out, HS.out, by omega⟩
        · go_simp
          obtain ⟨v1, hv1⟩ : ∃ W', v0.alloc (.cells #[.int .i64 0, .slice none 0 0, .int .i64 0] 31) = W' := ⟨_, rfl⟩
          have b1 : Below v0.heap.size v0 v1 := by rw [← hv1]; exact bel_alloc _ _
          have G : Hid (PB v1 v0.heap.size (.int .i64 0) (.slice none 0 0) (.int .i64 0)) := by rw [← hv1]; exact heap_alloc_new v0 _
          have zz1 : v0.heap.size < v1.heap.size := G.out.lt
          rw [hv1]
          replace HS := Lib.hid (HS.out.trans (b1.mono zz0))
          clear hv1 b1
          refine hJ.out _ _ HS.out (fun _ => ?_)
          clear hJ J
          go_simp
          refine wpAnyH_ready (rs := [6]) (by kernel_rfl) (by simp) (AllReadyH.cons rfl (fun J hJ => ?_) AllReadyH.nil)
          go_simp
          refine (HTE.out _ HS.out).mono ?_
          rintro e v2 ⟨A3, c3, rfl, hor, b3⟩
          have zz2 : v1.heap.size ≤ v2.heap.size := b3.size
          have hrn := rowE_new hBW Hrow2.out HVL.out HVA.out HS.out b3 hor
          have RW := Lib.hid hrn.1
          have hGne : Hid (∀ g9, A3 = some ⟨g9, 0, none⟩ → 0 < r.1.fails.length → g9 ≠ v0.heap.size) := fun g9 e hp => by have := hrn.2 g9 e hp; omega
          replace G := Lib.hid (G.out.below b3 zz1)
          replace HS := Lib.hid (HS.out.trans (b3.mono (by omega)))
          clear hrn hor b3
          refine hJ.out _ _ HS.out (fun _ => ?_)
          clear hJ J
          go_simp
          refine wpAnyH_take (i := 7) (v := (.tuple #[.agg #[.int .i64 r.1.state, .slice A3 r.1.fails.length c3, .int .i64 r.1.till], .int .i64 r.2])) rfl (by kernel_rfl) (by kernel_rfl) (by kernel_rfl) (fun _ _ _ h => h) (.inl ⟨rfl, fun V hS => ?y0⟩) HS.out ?_
          case y0 =>
            clear hS
            go_simp
          go_simp
          refine wpAnyH_take (i := 8) (v := (.agg #[.int .i64 r.1.state, .slice A3 r.1.fails.length c3, .int .i64 r.1.till])) rfl (by kernel_rfl) (by kernel_rfl) (by kernel_rfl) (fun _ _ _ h => h) (.inl ⟨rfl, fun V hS => ?y0⟩) HS.out ?_
          case y0 =>
            clear hS
            go_simp
          go_simp
          refine wpAnyH_take (i := 9) (v := (.int .i64 r.2)) rfl (by kernel_rfl) (by kernel_rfl) (by kernel_rfl) (fun _ _ _ h => h) (.inl ⟨rfl, fun V hS => ?y0⟩) HS.out ?_
          case y0 =>
            clear hS
            go_simp
          go_simp
          refine wpAnyH_ready (rs := [11]) (by kernel_rfl) (by simp) (AllReadyH.cons rfl (fun J hJ => ?_) AllReadyH.nil)
          obtain ⟨q0, q1, q2, q3⟩ := G.out.cells
          go_simp
          clear q0 q1 q2 q3
          obtain ⟨v9, hv9⟩ : ∃ W', (((v2).setCell ⟨(v0).heap.size, 0, none⟩ (.int .i64 r.1.state)).setCell ⟨(v0).heap.size, 1, none⟩ (.slice A3 r.1.fails.length c3)).setCell ⟨(v0).heap.size, 2, none⟩ (.int .i64 r.1.till) = W' := ⟨_, rfl⟩
          have GF : Hid (PB v9 (v0).heap.size (.int .i64 r.1.state) (.slice A3 r.1.fails.length c3) (.int .i64 r.1.till)) := by rw [← hv9]; exact ((G.out.set0 _).set1 _).set2 _
          have z9 : (v2).heap.size = v9.heap.size := by rw [← hv9]; simp [World.setCell]
          have RF : Hid (RowE v9 w1.heap.size ⟨r.1, A3, c3⟩ (.slice (some ⟨g, 0, none⟩) (k + 1) cp) va) := by
            intro hp
            obtain ⟨g9, h1, h2, h3, h4, h5, h6⟩ := RW.out hp
            refine ⟨g9, h1, h2, by omega, h4.of_block ?_, h5, h6⟩
            have hne : g9 ≠ (v0).heap.size := hGne.out g9 h1 hp
            rw [← hv9]
            rw [heap_setCell_other _ _ _ _ hne, heap_setCell_other _ _ _ _ hne, heap_setCell_other _ _ _ _ hne]
          replace HS : Hid (Below Wa.heap.size Wa v9) := by rw [← hv9]; exact ((HS.out.setCell (by show Wa.heap.size ≤ (v0).heap.size; omega) _).setCell (by show Wa.heap.size ≤ (v0).heap.size; omega) _).setCell (by show Wa.heap.size ≤ (v0).heap.size; omega) _
          rw [hv9]
          clear hv9
          refine hJ.out _ _ HS.out (fun _ => ?_)
          clear hJ J
          go_simp
          refine wpAnyH_take (i := 12) (v := (.int .i64 r.2)) rfl (by kernel_rfl) (by kernel_rfl) (by kernel_rfl) (fun _ _ _ h => h) (.inl ⟨rfl, fun V hS => ?y0⟩) HS.out ?_
          case y0 =>
            clear hS
            go_simp
          go_simp
          refine wpAnyH_done (by kernel_rfl) ?_ _
          go_wp2
          go_meet
          exact ⟨(v0).heap.size, ⟨r.1, A3, c3⟩, r.2, rfl, rfl, GF.out, by rw [Hr.out], by rw [Hr.out], RF.out, HS.out, by omega⟩
      case rest =>
        obtain ⟨gg, ⟨⟨s', zs', u'⟩, A', c'⟩, x, rfl, rfl, pg, eb, ex, rw9, bc, zg⟩ := hcut
        dsimp only at pg eb
        have Hsc := Lib.hid (Hsa.out.keep bc)
        have zc : Wa.heap.size ≤ wc.heap.size := bc.size
        obtain ⟨q0, q1, q2, q3⟩ := pg.cells
        have Heb := Lib.hid eb
        have Hex := Lib.hid ex
        have RW := Lib.hid rw9
        clear bc pg eb ex rw9 q3
        have htl : ts.length = k := by have := Hhi.out.told; rw [this]; exact hT_len (by have := Hn.out; omega)
        have hown := Hsc.out.own
        rw [hlen] at hown
        have Hown := Lib.hid hown
        clear hown
        go_wp2_with (at_builtin; refine wpList_append_own_at _ rfl _ _ 67 rfl w1.heap.size 31 j0 (.agg #[.int .i64 0, .slice none 0 0, .int .i64 0]) 3 40 Try.underlying67 Hj0.out Hy0.out Hy1.out Hy2.out rfl (by decide) _ (k + 1) (cellsE es) rfl (Hown.out.alloc _) ⟨wc.heap.size, 0, none⟩ 1 1 [.int .i64 s', .slice A' zs'.length c', .int .i64 u'] rfl rfl ?c1h ?c2h ?c3h ?c4h ?c5h ?_)
        case c1h => exact new_three rfl _ _ _ _
        case c2h => simp [Value.oneCell']
        case c3h => unfold maxLen; omega
        case c4h => omega
        case c5h => simp; omega
        intro v5 w5 hown5 hgr5 _ hat5
        have hp5 := Hsc.out.push ⟨⟨s', zs', u'⟩, A', c'⟩ RW.out (by rw [hlen]; exact hown5) hgr5 (by first | exact hat5 | simpa using hat5)
        have Hs5 := Lib.hid hp5
        clear hp5 hown5 hgr5 hat5 q0 q1 q2
        have z5 : w1.heap.size ≤ w5.heap.size := Hs5.out.low
        have hans := Hs5.out.ans
        rw [htl] at hans
        have Hans := Lib.hid hans
        clear hans
        go_wp2_with (at_builtin; refine wpList_append_own_at _ rfl _ _ 29 rfl w1.heap.size 3 i0 (.int .i64 0) 1 8 Try.underlying29 Hi0.out Hz0.out Hz1.out Hz2.out rfl (by decide) _ k (ts.map (Value.int .i64)) rfl (Hans.out.alloc _) ⟨w5.heap.size, 0, none⟩ 1 1 [.int .i64 x] rfl rfl ?d1h ?d2h ?d3h ?d4h ?d5h ?_)
        case d1h => exact new_one_at rfl _ _
        case d2h => simp [Value.oneCell']
        case d3h => unfold maxLen; omega
        case d4h => omega
        case d5h => simp; omega
        intro v6 w6 hown6 hgr6 _ hat6
        have hp6 := Hs5.out.tell (x := x) (by rw [htl]; exact hown6) hgr6 (by first | exact hat6 | simpa using hat6)
        have Hs6 := Lib.hid hp6
        clear hp6 hown6 hgr6 hat6
        go_wp2
        go_roundw
        case rel => exact ⟨_, _, k + 1, _, _, rfl, rfl, by omega, by go_num, Hs6.out, Hhi.out.step (by have := Hn.out; omega) Heb.out Hex.out⟩
        case measure => simp [intOf]; omega
    · have hkn : k = n := by omega
      have HF : Hid (HistEnd w c evs v va wr) := ⟨w1.heap.size, w1, es, ts, by omega, B.out, Hst.out, by rw [Hn.out, ← hkn]; exact Hhi.out, Nat.le_refl _⟩
      clear Hst
      go_wp2
      exact bodyPost_ret (v := .tuple #[v, va, .bool true]) (by simp [results, Try.results48, go_sem]) rfl ⟨HB.out, .inr ⟨Hc.out, v, va, rfl, HF.out⟩⟩
end Go.Proofs.Ytmmoelijpemlfaa.Bk
