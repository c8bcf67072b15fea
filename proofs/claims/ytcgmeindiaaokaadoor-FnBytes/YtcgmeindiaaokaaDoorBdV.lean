/- The program's eventAt. -/
import Derived.Test.YtcgmeindiaaokaaDoorBdR
import Derived.Test.YtcgmeindiaaokaaDoorByR
namespace Go.Proofs.YtcgmeindiaaokaaDoor.By
open Go.RowKit Go.Deep Base Rw

/-- The program's own error: the row ends there. -/
def ErA (p : Addr) (w : World) : Prop := w.cell? ⟨0, 0, none⟩ = some (.iface 99 (.pointer (some p)))
theorem ErA.below {p : Addr} {w w' : World} (h : ErA p w) (hb : Below w.heap.size w w') : ErA p w' := (hb.cell (World.block_lt_of_cell? _ _ h)).trans h

/-- What eventAt owes. -/
def EndE (w : World) (zs : List Int) (at_ : Int) (pA pN : Addr) (e : Ending) (w' : World) : Prop :=
  Below w.heap.size w w' ∧ ((∃ s m, takeE zs at_ = some (s, m) ∧ e = .returned (.tuple #[aggE s, .int .i64 m, .nilIface])) ∨
    (takeE zs at_ = none ∧ at_ = (zs.length : Int) ∧ e = .returned (.tuple #[aggE (0, 0, 0), .int .i64 0, .iface 99 (.pointer (some pA))])) ∨
    (takeE zs at_ = none ∧ at_ ≠ (zs.length : Int) ∧ e = .returned (.tuple #[aggE (0, 0, 0), .int .i64 0, .iface 99 (.pointer (some pN))])))
theorem takeE_no {b : List Int} {at_ : Int} (h : ¬ (0 ≤ at_ ∧ at_ < (b.length : Int) ∧ b.getD at_.toNat 0 ≤ 11)) : takeE b at_ = none := by unfold takeE; rw [if_neg h]
theorem takeE_no1 {b : List Int} {at_ : Int} (h : takeN b (at_ + 1) = none) : takeE b at_ = none := by
  unfold takeE
  split
  · rw [h]
  · rfl
theorem takeE_no2 {b : List Int} {at_ t n : Int} (h : takeN b (at_ + 1) = some (t, n)) (h2 : takeN b n = none) : takeE b at_ = none := by
  unfold takeE
  split
  · rw [h]; simp only; rw [h2]
  · rfl
theorem takeE_yes {b : List Int} {at_ k t n c m : Int} (h0 : 0 ≤ at_) (h1 : at_ < (b.length : Int)) (hk : b.getD at_.toNat 0 = k) (h2 : k ≤ 11) (h : takeN b (at_ + 1) = some (t, n)) (h3 : takeN b n = some (c, m)) : takeE b at_ = some ((k, t, c), m) := by
  unfold takeE
  rw [if_pos ⟨h0, h1, by omega⟩, h]
  simp only
  rw [h3, hk]

/-- A box of an event, still zero. -/
structure Bz (w : World) (g : Nat) : Prop where
  blk : w.heap[g]? = some (.cells #[.int .i64 0, .int .i64 0, .int .i64 0] 41 (0, 0))
theorem Bz.new (w : World) : Bz (w.alloc (.cells #[.int .i64 0, .int .i64 0, .int .i64 0] 41)) w.heap.size := ⟨heap_alloc_new w _⟩
theorem Bz.below {w w' : World} {g : Nat} (h : Bz w g) (hb : Below w.heap.size w w') : Bz w' g := ⟨(hb.block g (Array.getElem?_eq_some_iff.1 h.blk).1).trans h.blk⟩
theorem Bz.put {w : World} {g : Nat} (h : Bz w g) (x y z : Int) : ∃ W', ((w.setCell ⟨g, 0, none⟩ (.int .i64 x)).setCell ⟨g, 1, none⟩ (.int .i64 y)).setCell ⟨g, 2, none⟩ (.int .i64 z) = W' ∧
    W'.cell? ⟨g, 0, none⟩ = some (.int .i64 x) ∧ W'.cell? ⟨g, 1, none⟩ = some (.int .i64 y) ∧ W'.cell? ⟨g, 2, none⟩ = some (.int .i64 z) ∧ ∀ {B : Nat} {V : World}, Below B V w → B ≤ g → Below B V W' := by
  refine ⟨_, rfl, ?_, ?_, ?_, fun hb hg => ((hb.setCell (p := ⟨g, 0, none⟩) hg _).setCell (p := ⟨g, 1, none⟩) hg _).setCell (p := ⟨g, 2, none⟩) hg _⟩ <;> simp [World.cell?, World.setCell, Array.getElem?_modify, h.blk]
theorem Bz.cells {w : World} {g : Nat} (h : Bz w g) : w.cell? ⟨g, 0, none⟩ = some (.int .i64 0) ∧ w.cell? ⟨g, 1, none⟩ = some (.int .i64 0) ∧ w.cell? ⟨g, 2, none⟩ = some (.int .i64 0) ∧ w.frozen? ⟨g, 0, none⟩ = false ∧ w.frozen? ⟨g, 1, none⟩ = false ∧ w.frozen? ⟨g, 2, none⟩ = false := by
  refine ⟨?_, ?_, ?_, ?_, ?_, ?_⟩ <;> simp [World.cell?, World.frozen?, h.blk]

set_option maxRecDepth 100000 in
set_option maxHeartbeats 2000000 in
theorem implEvent_any (A : Option Addr) (n cap : Nat) (zs : List Int) (at_ : Int) (pA pN : Addr) (w : World) (hn : zs.length = n) (hm : n ≤ 1048576) (hcap : n ≤ cap) (hcm : cap ≤ 9223372036854775807) (hb : isB zs) (h : BI w A zs) (ha : ErA pA w) (hp : ErN pN w) (ha0 : -9223372036854775808 ≤ at_) (ha1 : at_ ≤ 9223372036854775807) :
    Calls Tryd.prog 39 #[.slice A n cap, .int .i64 at_] w (EndE w zs at_ pA pN) := by
  have HN : Hid (∀ (i : Int) W, BI W A zs → ErN pN W → -9223372036854775808 ≤ i → i ≤ 9223372036854775807 → Calls Tryd.prog 38 #[.slice A n cap, .int .i64 i] W (EndN W zs i pN)) := fun i W h hp h0 h1 => implNumber_any A n cap zs i pN W hn hm hcap hcm hb h hp h0 h1
  have Hn := Lib.hid hn
  have HB := Lib.hid hb
  have HI := Lib.hid h
  have HP := Lib.hid hp
  have pa0 : w.cell? ⟨0, 0, none⟩ = some (.iface 99 (.pointer (some pA))) := ha
  have pn0 : w.cell? ⟨2, 0, none⟩ = some (.iface 99 (.pointer (some pN))) := hp
  have la := World.block_lt_of_cell? _ _ pa0
  have ln := World.block_lt_of_cell? _ _ pn0
  clear hn hb h hp ha
  by_cases hend : at_ = n
  · subst hend
    have He : Hid (takeE zs n = none) := takeE_no (by have := Hn.out; omega)
    go_enter Tryd.func39, Tryd.ntmps39
    go_wp2
    go_region
    all_goals go_wp2
    all_goals (refine bodyPost_ret (v := .tuple #[aggE zE, .int .i64 0, .iface 99 (.pointer (some pA))]) (by simp [results, Tryd.results39, go_sem, zE]) rfl ?_)
    all_goals exact ⟨(bel_alloc _ _).drew, .inr (.inl ⟨He.out, by rw [Hn.out], rfl⟩)⟩
  · have Hend : Hid (at_ ≠ (zs.length : Int)) := by show _ ≠ _; rw [Hn.out]; exact hend
    by_cases hout : at_ < 0 ∨ (n : Int) < at_
    · have He : Hid (takeE zs at_ = none) := takeE_no (by have := Hn.out; omega)
      have hin : Tick.inB at_ 0 n = false := Tick.inB_false hout
      go_enter Tryd.func39, Tryd.ntmps39
      go_wp2_with fail
      refine (Cf.within_any 0 at_ n _).mono ?_
      rw [hin]
      rintro e w1 ⟨rfl, rfl⟩
      go_wp2
      go_region
      all_goals go_wp2
      all_goals (refine bodyPost_ret (v := .tuple #[aggE zE, .int .i64 0, .iface 99 (.pointer (some pN))]) (by simp [results, Tryd.results39, go_sem, zE]) rfl ?_)
      all_goals exact ⟨(bel_alloc _ _).drew, .inr (.inr ⟨He.out, Hend.out, rfl⟩)⟩
    · obtain ⟨a, rfl⟩ : ∃ a : Nat, at_ = (a : Int) := ⟨at_.toNat, by omega⟩
      have hin : Tick.inB (a : Int) 0 n = true := Tick.inB_true (by omega) (by omega)
      have hlt : a < n := by omega
      obtain ⟨b, off, rfl, hc⟩ := HI.out (by have := Hn.out; omega)
      have hck := hc a (by have := Hn.out; omega)
      have hby := HB.out.at (i := a) (by have := Hn.out; omega)
      obtain ⟨k, hk⟩ : ∃ k, zs.getD a 0 = k := ⟨_, rfl⟩
      rw [hk] at hck hby
      have Hk := Lib.hid hk
      obtain ⟨k0, k1⟩ := hby
      have hlb := World.block_lt_of_cell? _ _ hck
      clear hc hk
      by_cases h11 : 11 < k
      · have He : Hid (takeE zs (a : Int) = none) := takeE_no (by rw [Int.toNat_natCast, Hk.out]; omega)
        go_enter Tryd.func39, Tryd.ntmps39
        go_wp2_with fail
        refine (Cf.within_any 0 a n _).mono ?_
        rw [hin]
        rintro e w1 ⟨rfl, rfl⟩
        go_wp2
        go_region
        all_goals go_wp2
        all_goals (refine bodyPost_ret (v := .tuple #[aggE zE, .int .i64 0, .iface 99 (.pointer (some pN))]) (by simp [results, Tryd.results39, go_sem, zE]) rfl ?_)
        all_goals exact ⟨(bel_alloc _ _).drew, .inr (.inr ⟨He.out, Hend.out, rfl⟩)⟩
      · have HX := Lib.hid (Bz.new w)
        go_enter Tryd.func39, Tryd.ntmps39
        go_wp2_with fail
        refine (Cf.within_any 0 a n _).mono ?_
        rw [hin]
        rintro e w1 ⟨rfl, rfl⟩
        go_wp2_with fail
        refine (HN.out _ _ (HI.out.below (bel_alloc _ _)) (HP.out.below (bel_alloc _ _)) (by omega) (by omega)).mono ?_
        rintro e w1 ⟨b1, (⟨t, m, ht, rfl⟩ | ⟨ht, rfl⟩)⟩
        · have B1 := Lib.hid (bel_trans (bel_alloc w _) b1)
          have HX1 := Lib.hid (HX.out.below b1)
          have hs := takeN_some ht
          have Ht := Lib.hid ht
          clear b1 ht HX
          go_wp2_with fail
          refine (HN.out _ _ (HI.out.below B1.out) (HP.out.below B1.out) (by omega) (by have := Hn.out; omega)).mono ?_
          rintro e w2 ⟨b2, (⟨c, m2, hc2, rfl⟩ | ⟨hc2, rfl⟩)⟩
          · have He : Hid (takeE zs (a : Int) = some ((k, t, c), m2)) := takeE_yes (by omega) (by have := Hn.out; omega) (by rw [Int.toNat_natCast]; exact Hk.out) (by omega) Ht.out hc2
            have B2 := Lib.hid (bel_trans B1.out b2)
            obtain ⟨u0, u1, u2, f0, f1, f2⟩ := (HX1.out.below b2).cells
            obtain ⟨W', hW', q0, q1, q2, hbl⟩ := (HX1.out.below b2).put k t c
            have B3 := Lib.hid (hbl B2.out (Nat.le_refl _))
            have hc3 := (B2.out.cell hlb).trans hck
            clear b2 hc2 Ht HX1 hbl
            go_wp2
            clear hW' u0 u1 u2 f0 f1 f2
            refine bodyPost_ret (v := .tuple #[aggE (k, t, c), .int .i64 m2, .nilIface]) (by simp [results, Tryd.results39, go_sem, q0, q1, q2]) rfl ?_
            exact ⟨B3.out, .inl ⟨_, _, He.out, rfl⟩⟩
          · have He : Hid (takeE zs (a : Int) = none) := takeE_no2 Ht.out hc2
            have B2 := Lib.hid (bel_trans B1.out b2)
            obtain ⟨u0, u1, u2, f0, f1, f2⟩ := (HX1.out.below b2).cells
            obtain ⟨W', hW', q0, q1, q2, hbl⟩ := (HX1.out.below b2).put 0 0 0
            have B3 := Lib.hid (hbl B2.out (Nat.le_refl _))
            clear b2 hc2 Ht HX1 hbl
            go_wp2
            clear hW' u0 u1 u2 f0 f1 f2
            refine bodyPost_ret (v := .tuple #[aggE zE, .int .i64 0, .iface 99 (.pointer (some pN))]) (by simp [results, Tryd.results39, go_sem, zE, q0, q1, q2]) rfl ?_
            exact ⟨B3.out, .inr (.inr ⟨He.out, Hend.out, rfl⟩)⟩
        · have He : Hid (takeE zs (a : Int) = none) := takeE_no1 ht
          have B1 := Lib.hid (bel_trans (bel_alloc w _) b1)
          obtain ⟨u0, u1, u2, f0, f1, f2⟩ := (HX.out.below b1).cells
          obtain ⟨W', hW', q0, q1, q2, hbl⟩ := (HX.out.below b1).put 0 0 0
          have B3 := Lib.hid (hbl B1.out (Nat.le_refl _))
          clear b1 ht HX hbl
          go_wp2
          clear hW' u0 u1 u2 f0 f1 f2
          refine bodyPost_ret (v := .tuple #[aggE zE, .int .i64 0, .iface 99 (.pointer (some pN))]) (by simp [results, Tryd.results39, go_sem, zE, q0, q1, q2]) rfl ?_
          exact ⟨B3.out, .inr (.inr ⟨He.out, Hend.out, rfl⟩)⟩
end Go.Proofs.YtcgmeindiaaokaaDoor.By
