/- The law on lines walked: for every code that is drawn from, it returns true. -/
import Derived.Test.YtpjelojmkmednaaLfY
import Derived.Test.YtpjelojmkmednaaLen
import Derived.Test.YtpjelojmkmednaaLsf
import Derived.Test.YtpjelojmkmednaaLex
import Derived.Deep.DeepCutAuto
namespace Go.Proofs.Ytpjelojmkmednaa.Ln
open Go.RowKit Go.Deep Base

set_option maxRecDepth 100000 in
set_option maxHeartbeats 40000000 in
theorem lawLines (A : Option Addr) (n cap : Nat) (zs : List Int) (w : World) (hn : zs.length = n) (hm : n ≤ maxLen) (hb : Que.Bts w A zs) :
    Calls Try.prog 3 #[.slice A n cap] w fun e w' => e = .returned (.bool true) ∧ Below w.heap.size w w' := by
  have HB := Lib.hid hb
  have HN := Lib.hid hn
  have HM := Lib.hid hm
  clear hb hn hm
  by_cases hbig : 1048576 < n
  · have hd : decide (1048576 < n) = true := decide_eq_true hbig
    have Hc := Lib.hid (Que.big_any A n cap w HM.out)
    rw [hd] at Hc
    clear hd
    go_enter Try.func3, Try.ntmps3
    go_wp2_with fail
    refine Hc.out.mono ?_
    rintro e w' ⟨rfl, rfl⟩
    go_wp2
    go_ret
    exact ⟨rfl, Below.refl _ _⟩
  have hd : decide (1048576 < n) = false := decide_eq_false hbig
  have Hc := Lib.hid (Que.big_any A n cap w HM.out)
  rw [hd] at Hc
  clear hd
  have Hs : Hid (n ≤ 1048576) := by show n ≤ 1048576; omega
  clear hbig
  go_enter Try.func3, Try.ntmps3
  go_wp2_with fail
  refine Hc.out.mono ?_
  rintro e w' ⟨rfl, rfl⟩
  clear Hc
  go_wp2_with fail
  refine (implNewLine_any w).mono ?_
  rintro e w1 ⟨R1, A1, c1, B1, d1, rfl, v1, r1, b1⟩
  obtain ⟨x0, hx0⟩ : ∃ x0, nlX = x0 := ⟨_, rfl⟩
  have P0 : Hid (Pl x0 [] [] 0 0 0) := by rw [← hx0]; exact Pl.zero
  rw [hx0] at v1 ⊢
  clear hx0
  have z1 := b1.size
  obtain ⟨w2, hw2⟩ : ∃ w2, w1.alloc (.cells #[.slice A1 x0.s.ss.length c1, .int .i64 x0.s.f, .int .i64 x0.s.l, .int .i64 x0.s.r, .int .i64 x0.s.c, .slice B1 x0.ds.length d1, .int .i64 x0.q] 31) = w2 := ⟨_, rfl⟩
  have b12 : Below w1.heap.size w1 w2 := by rw [← hw2]; exact bel_alloc _ _
  have Bo : Hid (Bx w2 w1.heap.size 31 #[.slice A1 x0.s.ss.length c1, .int .i64 x0.s.f, .int .i64 x0.s.l, .int .i64 x0.s.r, .int .i64 x0.s.c, .slice B1 x0.ds.length d1, .int .i64 x0.q]) := by rw [← hw2]; exact Bx.new _ _ _
  have Z2 : Hid (w2.heap.size = w1.heap.size + 1) := by show w2.heap.size = _; rw [← hw2]; simp
  have S0 : Hid (Ls w ((w2.alloc (.cells #[] 3)).alloc (.cells #[] 3)) w1.heap.size x0 R1 A1 c1 B1 d1 0 w2.heap.size 0 0 [] (w2.heap.size + 1) 0 0 []) := by
    have ba : Below w2.heap.size w2 ((w2.alloc (.cells #[] 3)).alloc (.cells #[] 3)) := bel_trans (bel_alloc _ _) (bel_alloc _ _)
    have q1 := r1.b
    have q2 := r1.d
    have z2 := Z2.out
    refine ⟨Bo.out.below ba, (v1.below b12 r1).below ba (r1.wide (Nat.le_refl _) (by omega)), r1.wide (Nat.le_refl _) (by simp; omega), ?_, ?_, by omega, by omega, by omega, z1, bel_trans (bel_trans b1 b12) ba, by omega, by omega⟩
    · have h := (Li.empty w2 3).below (bel_alloc (w2.alloc (.cells #[] 3)) (.cells #[] 3)) (by simp)
      exact ⟨rfl, Nat.le_refl _, by omega, h.lt, h.cells, h.room⟩
    · have h := Li.empty (w2.alloc (.cells #[] 3)) 3
      rw [World.size_alloc] at h
      exact ⟨rfl, Nat.le_refl _, by omega, h.lt, h.cells, h.room⟩
  obtain ⟨g, hg⟩ : ∃ g, w1.heap.size = g := ⟨_, rfl⟩
  rw [hg] at S0
  clear b1 b12 Bo v1 r1
  go_wp2
  clear hw2
  rw [hg] at z1
  clear hg Z2
  go_loopw [4, 5, 6, 7, 8] (fun lv uv nv tv iv wr => ∃ (k m b1 o1 c1 : Nat) (L : List Int) (b2 o2 c2 : Nat) (U : List Int) (now t : Int) (x : Lx) (R : Rg) (Ax : Option Addr) (ca : Nat) (Bx' : Option Addr) (cb : Nat), lv = .slice (some ⟨b1, o1, none⟩) m c1 ∧ uv = .slice (some ⟨b2, o2, none⟩) m c2 ∧ nv = .int .i64 now ∧ tv = .int .i64 t ∧ iv = .int .i64 k ∧ k ≤ 100 ∧ L.length = m ∧ Pl x L U now t k ∧ Ls w wr g x R Ax ca Bx' cb m b1 o1 c1 L b2 o2 c2 U) (fun _ _ _ _ iv _ => 100 - (intOf iv).toNat)
  case atStart => exact ⟨0, 0, _, 0, 0, [], _, 0, 0, [], 0, 0, x0, R1, A1, c1, B1, d1, rfl, rfl, rfl, rfl, rfl, by omega, rfl, P0.out, S0.out⟩
  case round =>
    obtain ⟨k, m, b1, o1, c1, L, b2, o2, c2, U, now, t, x, R, Ax, ca, Bx', cb, rfl, rfl, rfl, rfl, rfl, hk, hL, hp, hs⟩ := hrel
    have P := Lib.hid hp
    have S := Lib.hid hs
    have HL := Lib.hid hL
    clear hp hs hL P0 S0
    have hm60 : m ≤ 60 := by rw [← HL.out]; exact P.out.few
    have hk1000 : k ≤ 1000 := by omega
    by_cases hlt : k < n ∧ k < 100
    · obtain ⟨hlt1, hlt2⟩ := hlt
      have hi1 : (k : Int) < (n : Int) := by omega
      have hi2 : (k : Int) < 100 := by omega
      go_wp2_with fail
      refine (Que.at_any A n cap zs k hk1000 wr HN.out Hs.out (HB.out.below S.out.old)).mono ?_
      rintro e w' ⟨⟨d, rfl, dl, dh⟩, rfl⟩
      have t0 := P.out.tk0
      have t1 := P.out.tk1
      have n0 := P.out.now0
      have n1 := P.out.now1
      have dcase : d % 5 = 0 ∨ d % 5 = 1 ∨ d % 5 = 2 ∨ d % 5 = 3 ∨ d % 5 = 4 := by omega
      rcases dcase with h5 | h5 | h5 | h5 | h5
      · skip
        have r30 : 0 ≤ d % 30 := by omega
        have r31 : d % 30 < 30 := by omega
        obtain ⟨u, hu⟩ : ∃ u, now + 1 + d % 30 = u := ⟨_, rfl⟩
        have hu0 : 0 ≤ u := by omega
        have hu1 : u ≤ 1000000000 := by omega
        have HQ := Lib.hid (P.out.enq (u := u) (by omega) hu0 hu1)
        obtain ⟨tn, htn⟩ : ∃ tn, t + 1 = tn := ⟨_, rfl⟩
        rw [htn] at HQ
        obtain ⟨y, hy⟩ : ∃ y, enX x tn u = y := ⟨_, rfl⟩
        obtain ⟨ok, hok⟩ : ∃ ok, enB x tn u = ok := ⟨_, rfl⟩
        rw [hy, hok] at HQ
        have HE : Hid (Calls Try.prog 15 #[.agg #[.slice Ax x.s.ss.length ca, .int .i64 x.s.f, .int .i64 x.s.l, .int .i64 x.s.r, .int .i64 x.s.c, .slice Bx' x.ds.length cb, .int .i64 x.q], .int .i64 tn, .int .i64 u] wr (NewL2 wr y (.bool ok))) := by
          rw [← hy, ← hok]
          exact implEnqueue_any Ax ca x Bx' cb tn u R wr (by have := (Qx.ids_facts P.out.lv.ok).2.2.2.2; omega) (by have := P.out.lv.hp.few; omega) S.out.row (S.out.rg.wide (Nat.zero_le _) (Nat.le_refl _))
        clear hy hok
        obtain ⟨y0, y1, y2, y3, y4, y5, y6, yf⟩ := S.out.box.cells7
        go_wp2_with fail
        refine HE.out.mono ?_
        rintro e w3 ⟨R2, A2, c2', B2, d2, rfl, v2, r2, b2'⟩
        have z3 := b2'.size
        clear HE y0 y1 y2 y3 y4 y5 y6 yf
        obtain ⟨w4, hw4⟩ : ∃ w4, w3.alloc (.cells #[.slice A2 y.s.ss.length c2', .int .i64 y.s.f, .int .i64 y.s.l, .int .i64 y.s.r, .int .i64 y.s.c, .slice B2 y.ds.length d2, .int .i64 y.q] 31) = w4 := ⟨_, rfl⟩
        have b34 : Below w3.heap.size w3 w4 := by rw [← hw4]; exact bel_alloc _ _
        have NB : Hid (Bx w4 w3.heap.size 31 #[.slice A2 y.s.ss.length c2', .int .i64 y.s.f, .int .i64 y.s.l, .int .i64 y.s.r, .int .i64 y.s.c, .slice B2 y.ds.length d2, .int .i64 y.q]) := by rw [← hw4]; exact Bx.new _ _ _
        have z4 : w3.heap.size < w4.heap.size := NB.out.lt
        have V2 := Lib.hid (v2.below b34 r2)
        have b14 := bel_trans b2' b34
        have Bo := Lib.hid (S.out.box.below b14)
        have L1 := Lib.hid (S.out.l1.below b14 S.out.l1.lt)
        have L2 := Lib.hid (S.out.l2.below b14 S.out.l2.lt)
        have O4 := Lib.hid (bel_trans S.out.old b14)
        have zg := S.out.box.lt
        have zb1 := S.out.l1.lt
        have zb2 := S.out.l2.lt
        have zw := S.out.old.size
        have n12 := S.out.n12
        have n1 := S.out.n1
        have n2 := S.out.n2
        have zl := S.out.low
        have zl1 := S.out.l1.low
        have zl2 := S.out.l2.low
        obtain ⟨q1, q2, q3, q4⟩ := r2
        clear b2' b34 v2
        by_cases hm9 : m < 60
        · have hm9' : (m : Int) < 60 := by omega
          have hok9 : ok = true := by have := HQ.out.1; rw [HL.out] at this; rw [this, decide_eq_true hm9]
          have HP := Lib.hid (HQ.out.2.1 (by rw [HL.out]; exact hm9))
          subst hok9
          clear HQ
          obtain ⟨w5, hw5⟩ : ∃ w5, w4.alloc (.cells #[.int .i64 tn] 3) = w5 := ⟨_, rfl⟩
          have b45 : Below w4.heap.size w4 w5 := by rw [← hw5]; exact bel_alloc _ _
          have hc5 : w5.cell? ⟨w4.heap.size, 0, none⟩ = some (.int .i64 tn) := by rw [← hw5]; exact cell_of_row _ _ 0 _ _ (0, 0) (heap_alloc_new w4 _)
          have z5 := b45.size
          have L1' := Lib.hid (L1.out.below b45 L1.out.lt)
          go_wp2_with (at_builtin; refine wpList_append_li (lo := w.heap.size) (x := tn) (sb := w4.heap.size) rfl _ _ rfl L1'.out rfl rfl hc5 (by omega) (by omega) ?hh1)
          case hh1 =>
            intro b1' o1' c1' w6 hl6 ht6 hb6
            have z6 := ht6.out.size
            have zb6 := hl6.out.lt
            clear hw5 hw4
            replace NB := Lib.hid (bx_turn1 (NB.out.below b45) ht6.out (by omega))
            replace Bo := Lib.hid (bx_turn1 (Bo.out.below b45) ht6.out (fun e => n1 e.symm))
            replace V2 := Lib.hid (ln_turn1 (lo := 0) (V2.out.below b45 (hi := 0) ⟨Nat.zero_le _, by omega, Nat.zero_le _, by omega⟩) ht6.out ⟨Nat.zero_le _, by omega, Nat.zero_le _, by omega⟩ (by omega))
            replace L2 := Lib.hid (li_turn1 (L2.out.below b45 L2.out.lt) ht6.out (fun e => n12 e.symm))
            replace O4 := Lib.hid ((bel_trans O4.out b45).trans (ht6.out.below zl1 (by omega)))
            clear b45 hc5 L1' L1
            obtain ⟨w7, hw7⟩ : ∃ w7, w6.alloc (.cells #[.int .i64 u] 3) = w7 := ⟨_, rfl⟩
            have b67 : Below w6.heap.size w6 w7 := by rw [← hw7]; exact bel_alloc _ _
            have hc7 : w7.cell? ⟨w6.heap.size, 0, none⟩ = some (.int .i64 u) := by rw [← hw7]; exact cell_of_row _ _ 0 _ _ (0, 0) (heap_alloc_new w6 _)
            have z7 := b67.size
            have L2' := Lib.hid (L2.out.below b67 L2.out.lt)
            have L1 := Lib.hid (hl6.out.below b67 hl6.out.lt)
            go_wp2_with (at_builtin; refine wpList_append_li (lo := w.heap.size) (x := u) (sb := w6.heap.size) rfl _ _ rfl L2'.out rfl rfl hc7 (by omega) (by omega) ?hh2)
            case hh2 =>
              intro b2' o2' c2'' w8 hl8 ht8 hb8
              have z8 := ht8.out.size
              have zb8 := hl8.out.lt
              clear hw7 hu htn
              have n21 : b1' ≠ b2 := by omega
              replace NB := Lib.hid (bx_turn1 (NB.out.below b67) ht8.out (by omega))
              replace Bo := Lib.hid (bx_turn1 (Bo.out.below b67) ht8.out (fun e => n2 e.symm))
              replace V2 := Lib.hid (ln_turn1 (lo := 0) (V2.out.below b67 (hi := 0) ⟨Nat.zero_le _, by omega, Nat.zero_le _, by omega⟩) ht8.out ⟨Nat.zero_le _, by omega, Nat.zero_le _, by omega⟩ (by omega))
              replace L1 := Lib.hid (li_turn1 L1.out ht8.out n21)
              replace O4 := Lib.hid ((bel_trans O4.out b67).trans (ht8.out.below zl2 (by omega)))
              clear b67 hc7 L2' L2
              have F := Lib.hid (Ls.put (ca2 := c2') (cb2 := d2) (lo := wr.heap.size) Bo.out V2.out ⟨q1, by omega, q3, by omega⟩ zw zg L1.out hl8.out (by omega) (by omega) (by omega) zl O4.out (by omega) (by omega))
              have HL9 : Hid ((L ++ [tn]).length = m + 1) := by show (L ++ [tn]).length = m + 1; rw [List.length_append, HL.out]; rfl
              clear S P HL V2 L1 O4 hl6 ht6 hl8 ht8
              obtain ⟨p0, p1, p2, p3, p4, p5, p6, pf⟩ := NB.out.cells7
              obtain ⟨y0, y1, y2, y3, y4, y5, y6, yf⟩ := Bo.out.cells7
              go_wp2
              go_roundw
              case rel => exact ⟨k + 1, m + 1, b1', o1', c1', L ++ [tn], b2', o2', c2'', U ++ [u], now, tn, y, R2, A2, c2', B2, d2, rfl, rfl, rfl, rfl, by go_num, by omega, HL9.out, by have := HP.out; simpa using this, F.out⟩
              case measure => simp [intOf]; omega
        · have hm9' : ¬ (m : Int) < 60 := by omega
          have hok9 : ok = false := by have := HQ.out.1; rw [HL.out] at this; rw [this, decide_eq_false hm9]
          obtain ⟨hyx, hpn⟩ := HQ.out.2.2 (by rw [HL.out]; exact hm9)
          subst hok9
          have HP : Hid (Pl y L U now tn (k + 1)) := by rw [hyx]; exact hpn
          clear HQ hyx hpn
          have F := Lib.hid (Ls.put (ca2 := c2') (cb2 := d2) (lo := wr.heap.size) Bo.out V2.out ⟨q1, by omega, q3, by omega⟩ zw zg L1.out L2.out n12 n1 n2 zl O4.out (by omega) (by omega))
          clear S P V2 L1 L2 O4 hu
          obtain ⟨p0, p1, p2, p3, p4, p5, p6, pf⟩ := NB.out.cells7
          obtain ⟨y0, y1, y2, y3, y4, y5, y6, yf⟩ := Bo.out.cells7
          go_wp2
          go_roundw
          case rel => exact ⟨k + 1, m, b1, o1, c1, L, b2, o2, c2, U, now, tn, y, R2, A2, c2', B2, d2, rfl, rfl, rfl, rfl, by go_num, by omega, HL.out, by have := HP.out; simpa using this, F.out⟩
          case measure => simp [intOf]; omega
        skip
      · skip
        have r30 : 0 ≤ d % 30 := by omega
        have r31 : d % 30 < 30 := by omega
        obtain ⟨u, hu⟩ : ∃ u, now + 1 + d % 30 = u := ⟨_, rfl⟩
        have hu0 : 0 ≤ u := by omega
        have hu1 : u ≤ 1000000000 := by omega
        have HQ := Lib.hid (P.out.enq (u := u) (by omega) hu0 hu1)
        obtain ⟨tn, htn⟩ : ∃ tn, t + 1 = tn := ⟨_, rfl⟩
        rw [htn] at HQ
        obtain ⟨y, hy⟩ : ∃ y, enX x tn u = y := ⟨_, rfl⟩
        obtain ⟨ok, hok⟩ : ∃ ok, enB x tn u = ok := ⟨_, rfl⟩
        rw [hy, hok] at HQ
        have HE : Hid (Calls Try.prog 15 #[.agg #[.slice Ax x.s.ss.length ca, .int .i64 x.s.f, .int .i64 x.s.l, .int .i64 x.s.r, .int .i64 x.s.c, .slice Bx' x.ds.length cb, .int .i64 x.q], .int .i64 tn, .int .i64 u] wr (NewL2 wr y (.bool ok))) := by
          rw [← hy, ← hok]
          exact implEnqueue_any Ax ca x Bx' cb tn u R wr (by have := (Qx.ids_facts P.out.lv.ok).2.2.2.2; omega) (by have := P.out.lv.hp.few; omega) S.out.row (S.out.rg.wide (Nat.zero_le _) (Nat.le_refl _))
        clear hy hok
        obtain ⟨y0, y1, y2, y3, y4, y5, y6, yf⟩ := S.out.box.cells7
        go_wp2_with fail
        refine HE.out.mono ?_
        rintro e w3 ⟨R2, A2, c2', B2, d2, rfl, v2, r2, b2'⟩
        have z3 := b2'.size
        clear HE y0 y1 y2 y3 y4 y5 y6 yf
        obtain ⟨w4, hw4⟩ : ∃ w4, w3.alloc (.cells #[.slice A2 y.s.ss.length c2', .int .i64 y.s.f, .int .i64 y.s.l, .int .i64 y.s.r, .int .i64 y.s.c, .slice B2 y.ds.length d2, .int .i64 y.q] 31) = w4 := ⟨_, rfl⟩
        have b34 : Below w3.heap.size w3 w4 := by rw [← hw4]; exact bel_alloc _ _
        have NB : Hid (Bx w4 w3.heap.size 31 #[.slice A2 y.s.ss.length c2', .int .i64 y.s.f, .int .i64 y.s.l, .int .i64 y.s.r, .int .i64 y.s.c, .slice B2 y.ds.length d2, .int .i64 y.q]) := by rw [← hw4]; exact Bx.new _ _ _
        have z4 : w3.heap.size < w4.heap.size := NB.out.lt
        have V2 := Lib.hid (v2.below b34 r2)
        have b14 := bel_trans b2' b34
        have Bo := Lib.hid (S.out.box.below b14)
        have L1 := Lib.hid (S.out.l1.below b14 S.out.l1.lt)
        have L2 := Lib.hid (S.out.l2.below b14 S.out.l2.lt)
        have O4 := Lib.hid (bel_trans S.out.old b14)
        have zg := S.out.box.lt
        have zb1 := S.out.l1.lt
        have zb2 := S.out.l2.lt
        have zw := S.out.old.size
        have n12 := S.out.n12
        have n1 := S.out.n1
        have n2 := S.out.n2
        have zl := S.out.low
        have zl1 := S.out.l1.low
        have zl2 := S.out.l2.low
        obtain ⟨q1, q2, q3, q4⟩ := r2
        clear b2' b34 v2
        by_cases hm9 : m < 60
        · have hm9' : (m : Int) < 60 := by omega
          have hok9 : ok = true := by have := HQ.out.1; rw [HL.out] at this; rw [this, decide_eq_true hm9]
          have HP := Lib.hid (HQ.out.2.1 (by rw [HL.out]; exact hm9))
          subst hok9
          clear HQ
          obtain ⟨w5, hw5⟩ : ∃ w5, w4.alloc (.cells #[.int .i64 tn] 3) = w5 := ⟨_, rfl⟩
          have b45 : Below w4.heap.size w4 w5 := by rw [← hw5]; exact bel_alloc _ _
          have hc5 : w5.cell? ⟨w4.heap.size, 0, none⟩ = some (.int .i64 tn) := by rw [← hw5]; exact cell_of_row _ _ 0 _ _ (0, 0) (heap_alloc_new w4 _)
          have z5 := b45.size
          have L1' := Lib.hid (L1.out.below b45 L1.out.lt)
          go_wp2_with (at_builtin; refine wpList_append_li (lo := w.heap.size) (x := tn) (sb := w4.heap.size) rfl _ _ rfl L1'.out rfl rfl hc5 (by omega) (by omega) ?hh1)
          case hh1 =>
            intro b1' o1' c1' w6 hl6 ht6 hb6
            have z6 := ht6.out.size
            have zb6 := hl6.out.lt
            clear hw5 hw4
            replace NB := Lib.hid (bx_turn1 (NB.out.below b45) ht6.out (by omega))
            replace Bo := Lib.hid (bx_turn1 (Bo.out.below b45) ht6.out (fun e => n1 e.symm))
            replace V2 := Lib.hid (ln_turn1 (lo := 0) (V2.out.below b45 (hi := 0) ⟨Nat.zero_le _, by omega, Nat.zero_le _, by omega⟩) ht6.out ⟨Nat.zero_le _, by omega, Nat.zero_le _, by omega⟩ (by omega))
            replace L2 := Lib.hid (li_turn1 (L2.out.below b45 L2.out.lt) ht6.out (fun e => n12 e.symm))
            replace O4 := Lib.hid ((bel_trans O4.out b45).trans (ht6.out.below zl1 (by omega)))
            clear b45 hc5 L1' L1
            obtain ⟨w7, hw7⟩ : ∃ w7, w6.alloc (.cells #[.int .i64 u] 3) = w7 := ⟨_, rfl⟩
            have b67 : Below w6.heap.size w6 w7 := by rw [← hw7]; exact bel_alloc _ _
            have hc7 : w7.cell? ⟨w6.heap.size, 0, none⟩ = some (.int .i64 u) := by rw [← hw7]; exact cell_of_row _ _ 0 _ _ (0, 0) (heap_alloc_new w6 _)
            have z7 := b67.size
            have L2' := Lib.hid (L2.out.below b67 L2.out.lt)
            have L1 := Lib.hid (hl6.out.below b67 hl6.out.lt)
            go_wp2_with (at_builtin; refine wpList_append_li (lo := w.heap.size) (x := u) (sb := w6.heap.size) rfl _ _ rfl L2'.out rfl rfl hc7 (by omega) (by omega) ?hh2)
            case hh2 =>
              intro b2' o2' c2'' w8 hl8 ht8 hb8
              have z8 := ht8.out.size
              have zb8 := hl8.out.lt
              clear hw7 hu htn
              have n21 : b1' ≠ b2 := by omega
              replace NB := Lib.hid (bx_turn1 (NB.out.below b67) ht8.out (by omega))
              replace Bo := Lib.hid (bx_turn1 (Bo.out.below b67) ht8.out (fun e => n2 e.symm))
              replace V2 := Lib.hid (ln_turn1 (lo := 0) (V2.out.below b67 (hi := 0) ⟨Nat.zero_le _, by omega, Nat.zero_le _, by omega⟩) ht8.out ⟨Nat.zero_le _, by omega, Nat.zero_le _, by omega⟩ (by omega))
              replace L1 := Lib.hid (li_turn1 L1.out ht8.out n21)
              replace O4 := Lib.hid ((bel_trans O4.out b67).trans (ht8.out.below zl2 (by omega)))
              clear b67 hc7 L2' L2
              have F := Lib.hid (Ls.put (ca2 := c2') (cb2 := d2) (lo := wr.heap.size) Bo.out V2.out ⟨q1, by omega, q3, by omega⟩ zw zg L1.out hl8.out (by omega) (by omega) (by omega) zl O4.out (by omega) (by omega))
              have HL9 : Hid ((L ++ [tn]).length = m + 1) := by show (L ++ [tn]).length = m + 1; rw [List.length_append, HL.out]; rfl
              clear S P HL V2 L1 O4 hl6 ht6 hl8 ht8
              obtain ⟨p0, p1, p2, p3, p4, p5, p6, pf⟩ := NB.out.cells7
              obtain ⟨y0, y1, y2, y3, y4, y5, y6, yf⟩ := Bo.out.cells7
              go_wp2
              go_roundw
              case rel => exact ⟨k + 1, m + 1, b1', o1', c1', L ++ [tn], b2', o2', c2'', U ++ [u], now, tn, y, R2, A2, c2', B2, d2, rfl, rfl, rfl, rfl, by go_num, by omega, HL9.out, by have := HP.out; simpa using this, F.out⟩
              case measure => simp [intOf]; omega
        · have hm9' : ¬ (m : Int) < 60 := by omega
          have hok9 : ok = false := by have := HQ.out.1; rw [HL.out] at this; rw [this, decide_eq_false hm9]
          obtain ⟨hyx, hpn⟩ := HQ.out.2.2 (by rw [HL.out]; exact hm9)
          subst hok9
          have HP : Hid (Pl y L U now tn (k + 1)) := by rw [hyx]; exact hpn
          clear HQ hyx hpn
          have F := Lib.hid (Ls.put (ca2 := c2') (cb2 := d2) (lo := wr.heap.size) Bo.out V2.out ⟨q1, by omega, q3, by omega⟩ zw zg L1.out L2.out n12 n1 n2 zl O4.out (by omega) (by omega))
          clear S P V2 L1 L2 O4 hu
          obtain ⟨p0, p1, p2, p3, p4, p5, p6, pf⟩ := NB.out.cells7
          obtain ⟨y0, y1, y2, y3, y4, y5, y6, yf⟩ := Bo.out.cells7
          go_wp2
          go_roundw
          case rel => exact ⟨k + 1, m, b1, o1, c1, L, b2, o2, c2, U, now, tn, y, R2, A2, c2', B2, d2, rfl, rfl, rfl, rfl, by go_num, by omega, HL.out, by have := HP.out; simpa using this, F.out⟩
          case measure => simp [intOf]; omega
        skip
      · skip
        have r30 : 0 ≤ d % 30 := by omega
        have r31 : d % 30 < 30 := by omega
        obtain ⟨u, hu⟩ : ∃ u, now + 1 + d % 30 = u := ⟨_, rfl⟩
        have hu0 : 0 ≤ u := by omega
        have hu1 : u ≤ 1000000000 := by omega
        have HQ := Lib.hid (P.out.enq (u := u) (by omega) hu0 hu1)
        obtain ⟨tn, htn⟩ : ∃ tn, t + 1 = tn := ⟨_, rfl⟩
        rw [htn] at HQ
        obtain ⟨y, hy⟩ : ∃ y, enX x tn u = y := ⟨_, rfl⟩
        obtain ⟨ok, hok⟩ : ∃ ok, enB x tn u = ok := ⟨_, rfl⟩
        rw [hy, hok] at HQ
        have HE : Hid (Calls Try.prog 15 #[.agg #[.slice Ax x.s.ss.length ca, .int .i64 x.s.f, .int .i64 x.s.l, .int .i64 x.s.r, .int .i64 x.s.c, .slice Bx' x.ds.length cb, .int .i64 x.q], .int .i64 tn, .int .i64 u] wr (NewL2 wr y (.bool ok))) := by
          rw [← hy, ← hok]
          exact implEnqueue_any Ax ca x Bx' cb tn u R wr (by have := (Qx.ids_facts P.out.lv.ok).2.2.2.2; omega) (by have := P.out.lv.hp.few; omega) S.out.row (S.out.rg.wide (Nat.zero_le _) (Nat.le_refl _))
        clear hy hok
        obtain ⟨y0, y1, y2, y3, y4, y5, y6, yf⟩ := S.out.box.cells7
        go_wp2_with fail
        refine HE.out.mono ?_
        rintro e w3 ⟨R2, A2, c2', B2, d2, rfl, v2, r2, b2'⟩
        have z3 := b2'.size
        clear HE y0 y1 y2 y3 y4 y5 y6 yf
        obtain ⟨w4, hw4⟩ : ∃ w4, w3.alloc (.cells #[.slice A2 y.s.ss.length c2', .int .i64 y.s.f, .int .i64 y.s.l, .int .i64 y.s.r, .int .i64 y.s.c, .slice B2 y.ds.length d2, .int .i64 y.q] 31) = w4 := ⟨_, rfl⟩
        have b34 : Below w3.heap.size w3 w4 := by rw [← hw4]; exact bel_alloc _ _
        have NB : Hid (Bx w4 w3.heap.size 31 #[.slice A2 y.s.ss.length c2', .int .i64 y.s.f, .int .i64 y.s.l, .int .i64 y.s.r, .int .i64 y.s.c, .slice B2 y.ds.length d2, .int .i64 y.q]) := by rw [← hw4]; exact Bx.new _ _ _
        have z4 : w3.heap.size < w4.heap.size := NB.out.lt
        have V2 := Lib.hid (v2.below b34 r2)
        have b14 := bel_trans b2' b34
        have Bo := Lib.hid (S.out.box.below b14)
        have L1 := Lib.hid (S.out.l1.below b14 S.out.l1.lt)
        have L2 := Lib.hid (S.out.l2.below b14 S.out.l2.lt)
        have O4 := Lib.hid (bel_trans S.out.old b14)
        have zg := S.out.box.lt
        have zb1 := S.out.l1.lt
        have zb2 := S.out.l2.lt
        have zw := S.out.old.size
        have n12 := S.out.n12
        have n1 := S.out.n1
        have n2 := S.out.n2
        have zl := S.out.low
        have zl1 := S.out.l1.low
        have zl2 := S.out.l2.low
        obtain ⟨q1, q2, q3, q4⟩ := r2
        clear b2' b34 v2
        by_cases hm9 : m < 60
        · have hm9' : (m : Int) < 60 := by omega
          have hok9 : ok = true := by have := HQ.out.1; rw [HL.out] at this; rw [this, decide_eq_true hm9]
          have HP := Lib.hid (HQ.out.2.1 (by rw [HL.out]; exact hm9))
          subst hok9
          clear HQ
          obtain ⟨w5, hw5⟩ : ∃ w5, w4.alloc (.cells #[.int .i64 tn] 3) = w5 := ⟨_, rfl⟩
          have b45 : Below w4.heap.size w4 w5 := by rw [← hw5]; exact bel_alloc _ _
          have hc5 : w5.cell? ⟨w4.heap.size, 0, none⟩ = some (.int .i64 tn) := by rw [← hw5]; exact cell_of_row _ _ 0 _ _ (0, 0) (heap_alloc_new w4 _)
          have z5 := b45.size
          have L1' := Lib.hid (L1.out.below b45 L1.out.lt)
          go_wp2_with (at_builtin; refine wpList_append_li (lo := w.heap.size) (x := tn) (sb := w4.heap.size) rfl _ _ rfl L1'.out rfl rfl hc5 (by omega) (by omega) ?hh1)
          case hh1 =>
            intro b1' o1' c1' w6 hl6 ht6 hb6
            have z6 := ht6.out.size
            have zb6 := hl6.out.lt
            clear hw5 hw4
            replace NB := Lib.hid (bx_turn1 (NB.out.below b45) ht6.out (by omega))
            replace Bo := Lib.hid (bx_turn1 (Bo.out.below b45) ht6.out (fun e => n1 e.symm))
            replace V2 := Lib.hid (ln_turn1 (lo := 0) (V2.out.below b45 (hi := 0) ⟨Nat.zero_le _, by omega, Nat.zero_le _, by omega⟩) ht6.out ⟨Nat.zero_le _, by omega, Nat.zero_le _, by omega⟩ (by omega))
            replace L2 := Lib.hid (li_turn1 (L2.out.below b45 L2.out.lt) ht6.out (fun e => n12 e.symm))
            replace O4 := Lib.hid ((bel_trans O4.out b45).trans (ht6.out.below zl1 (by omega)))
            clear b45 hc5 L1' L1
            obtain ⟨w7, hw7⟩ : ∃ w7, w6.alloc (.cells #[.int .i64 u] 3) = w7 := ⟨_, rfl⟩
            have b67 : Below w6.heap.size w6 w7 := by rw [← hw7]; exact bel_alloc _ _
            have hc7 : w7.cell? ⟨w6.heap.size, 0, none⟩ = some (.int .i64 u) := by rw [← hw7]; exact cell_of_row _ _ 0 _ _ (0, 0) (heap_alloc_new w6 _)
            have z7 := b67.size
            have L2' := Lib.hid (L2.out.below b67 L2.out.lt)
            have L1 := Lib.hid (hl6.out.below b67 hl6.out.lt)
            go_wp2_with (at_builtin; refine wpList_append_li (lo := w.heap.size) (x := u) (sb := w6.heap.size) rfl _ _ rfl L2'.out rfl rfl hc7 (by omega) (by omega) ?hh2)
            case hh2 =>
              intro b2' o2' c2'' w8 hl8 ht8 hb8
              have z8 := ht8.out.size
              have zb8 := hl8.out.lt
              clear hw7 hu htn
              have n21 : b1' ≠ b2 := by omega
              replace NB := Lib.hid (bx_turn1 (NB.out.below b67) ht8.out (by omega))
              replace Bo := Lib.hid (bx_turn1 (Bo.out.below b67) ht8.out (fun e => n2 e.symm))
              replace V2 := Lib.hid (ln_turn1 (lo := 0) (V2.out.below b67 (hi := 0) ⟨Nat.zero_le _, by omega, Nat.zero_le _, by omega⟩) ht8.out ⟨Nat.zero_le _, by omega, Nat.zero_le _, by omega⟩ (by omega))
              replace L1 := Lib.hid (li_turn1 L1.out ht8.out n21)
              replace O4 := Lib.hid ((bel_trans O4.out b67).trans (ht8.out.below zl2 (by omega)))
              clear b67 hc7 L2' L2
              have F := Lib.hid (Ls.put (ca2 := c2') (cb2 := d2) (lo := wr.heap.size) Bo.out V2.out ⟨q1, by omega, q3, by omega⟩ zw zg L1.out hl8.out (by omega) (by omega) (by omega) zl O4.out (by omega) (by omega))
              have HL9 : Hid ((L ++ [tn]).length = m + 1) := by show (L ++ [tn]).length = m + 1; rw [List.length_append, HL.out]; rfl
              clear S P HL V2 L1 O4 hl6 ht6 hl8 ht8
              obtain ⟨p0, p1, p2, p3, p4, p5, p6, pf⟩ := NB.out.cells7
              obtain ⟨y0, y1, y2, y3, y4, y5, y6, yf⟩ := Bo.out.cells7
              go_wp2
              go_roundw
              case rel => exact ⟨k + 1, m + 1, b1', o1', c1', L ++ [tn], b2', o2', c2'', U ++ [u], now, tn, y, R2, A2, c2', B2, d2, rfl, rfl, rfl, rfl, by go_num, by omega, HL9.out, by have := HP.out; simpa using this, F.out⟩
              case measure => simp [intOf]; omega
        · have hm9' : ¬ (m : Int) < 60 := by omega
          have hok9 : ok = false := by have := HQ.out.1; rw [HL.out] at this; rw [this, decide_eq_false hm9]
          obtain ⟨hyx, hpn⟩ := HQ.out.2.2 (by rw [HL.out]; exact hm9)
          subst hok9
          have HP : Hid (Pl y L U now tn (k + 1)) := by rw [hyx]; exact hpn
          clear HQ hyx hpn
          have F := Lib.hid (Ls.put (ca2 := c2') (cb2 := d2) (lo := wr.heap.size) Bo.out V2.out ⟨q1, by omega, q3, by omega⟩ zw zg L1.out L2.out n12 n1 n2 zl O4.out (by omega) (by omega))
          clear S P V2 L1 L2 O4 hu
          obtain ⟨p0, p1, p2, p3, p4, p5, p6, pf⟩ := NB.out.cells7
          obtain ⟨y0, y1, y2, y3, y4, y5, y6, yf⟩ := Bo.out.cells7
          go_wp2
          go_roundw
          case rel => exact ⟨k + 1, m, b1, o1, c1, L, b2, o2, c2, U, now, tn, y, R2, A2, c2', B2, d2, rfl, rfl, rfl, rfl, by go_num, by omega, HL.out, by have := HP.out; simpa using this, F.out⟩
          case measure => simp [intOf]; omega
        skip
      · skip
        obtain ⟨y, hy⟩ : ∃ y, sfX x = y := ⟨_, rfl⟩
        obtain ⟨z, hz⟩ : ∃ z, sfT x = z := ⟨_, rfl⟩
        have HE : Hid (Calls Try.prog 16 #[.agg #[.slice Ax x.s.ss.length ca, .int .i64 x.s.f, .int .i64 x.s.l, .int .i64 x.s.r, .int .i64 x.s.c, .slice Bx' x.ds.length cb, .int .i64 x.q]] wr (NewL2 wr y (.int .i64 z))) := by
          rw [← hy, ← hz]
          exact implServe_any Ax ca x Bx' cb R wr (by have := (Qx.ids_facts P.out.lv.ok).2.2.2.2; omega) (by have := P.out.lv.hp.few; omega) S.out.row (S.out.rg.wide (Nat.zero_le _) (Nat.le_refl _))
        have Hy := Lib.hid hy
        have Hz := Lib.hid hz
        clear hy hz
        obtain ⟨y0, y1, y2, y3, y4, y5, y6, yf⟩ := S.out.box.cells7
        by_cases hm0 : m = 0
        · obtain rfl : L = [] := List.length_eq_zero_iff.1 (by rw [HL.out]; exact hm0)
          subst hm0
          obtain ⟨e1, e2⟩ := P.out.srv_nil
          obtain rfl : z = 0 := by rw [← Hz.out]; exact e1
          have HP : Hid (Pl y [] U now t (k + 1)) := by rw [← Hy.out, e2]; exact P.out.next
          clear e1 e2
          go_wp2_with fail
          refine HE.out.mono ?_
          rintro e w3 ⟨R2, A2, c2', B2, d2, rfl, v2, r2, b2'⟩
          have z3 := b2'.size
          clear HE y0 y1 y2 y3 y4 y5 y6 yf
          obtain ⟨w4, hw4⟩ : ∃ w4, w3.alloc (.cells #[.slice A2 y.s.ss.length c2', .int .i64 y.s.f, .int .i64 y.s.l, .int .i64 y.s.r, .int .i64 y.s.c, .slice B2 y.ds.length d2, .int .i64 y.q] 31) = w4 := ⟨_, rfl⟩
          have b34 : Below w3.heap.size w3 w4 := by rw [← hw4]; exact bel_alloc _ _
          have NB : Hid (Bx w4 w3.heap.size 31 #[.slice A2 y.s.ss.length c2', .int .i64 y.s.f, .int .i64 y.s.l, .int .i64 y.s.r, .int .i64 y.s.c, .slice B2 y.ds.length d2, .int .i64 y.q]) := by rw [← hw4]; exact Bx.new _ _ _
          have z4 : w3.heap.size < w4.heap.size := NB.out.lt
          have V2 := Lib.hid (v2.below b34 r2)
          have b14 := bel_trans b2' b34
          have Bo := Lib.hid (S.out.box.below b14)
          have L1 := Lib.hid (S.out.l1.below b14 S.out.l1.lt)
          have L2 := Lib.hid (S.out.l2.below b14 S.out.l2.lt)
          have O4 := Lib.hid (bel_trans S.out.old b14)
          have zg := S.out.box.lt
          have zb1 := S.out.l1.lt
          have zb2 := S.out.l2.lt
          have zw := S.out.old.size
          have n12 := S.out.n12
          have n1 := S.out.n1
          have n2 := S.out.n2
          have zl := S.out.low
          have zl1 := S.out.l1.low
          have zl2 := S.out.l2.low
          obtain ⟨q1, q2, q3, q4⟩ := r2
          clear b2' b34 v2
          skip
          have F := Lib.hid (Ls.put (ca2 := c2') (cb2 := d2) (lo := wr.heap.size) Bo.out V2.out ⟨q1, by omega, q3, by omega⟩ zw zg L1.out L2.out n12 n1 n2 zl O4.out (by omega) (by omega))
          clear S P V2 L1 L2 O4
          obtain ⟨p0, p1, p2, p3, p4, p5, p6, pf⟩ := NB.out.cells7
          obtain ⟨y0, y1, y2, y3, y4, y5, y6, yf⟩ := Bo.out.cells7
          go_wp2
          go_roundw
          case rel => exact ⟨k + 1, 0, b1, o1, c1, [], b2, o2, c2, U, now, t, y, R2, A2, c2', B2, d2, rfl, rfl, rfl, rfl, by go_num, by omega, HL.out, by have := HP.out; simpa using this, F.out⟩
          case measure => simp [intOf]; omega
        · obtain ⟨a, L', rfl⟩ : ∃ a L', L = a :: L' := by
            cases hL9 : L with
            | nil => have := HL.out; rw [hL9] at this; simp at this; omega
            | cons a L' => exact ⟨a, L', rfl⟩
          obtain ⟨c, U', rfl⟩ : ∃ c U', U = c :: U' := by
            cases hU9 : U with
            | nil => have := P.out.len; rw [hU9] at this; simp at this
            | cons c U' => exact ⟨c, U', rfl⟩
          obtain ⟨m', rfl⟩ : ∃ m', m = m' + 1 := ⟨m - 1, by omega⟩
          obtain ⟨k1, rfl⟩ : ∃ k1, c1 = k1 + 1 := ⟨c1 - 1, by have := S.out.l1.le; omega⟩
          obtain ⟨k2, rfl⟩ : ∃ k2, c2 = k2 + 1 := ⟨c2 - 1, by have := S.out.l2.le; omega⟩
          obtain ⟨e1, e2⟩ := P.out.srv
          obtain rfl : z = a := by rw [← Hz.out]; exact e1
          have HP : Hid (Pl y L' U' now t (k + 1)) := by rw [← Hy.out]; exact e2
          clear e1 e2
          have hn9 : ¬ (m' : Int) + 1 = 0 := by omega
          have hn8 : (0 : Int) < (m' : Int) + 1 := by omega
          have hn7 : ((m' : Int) + 1 == 0) = false := by simp; omega
          go_wp2_with fail
          refine HE.out.mono ?_
          rintro e w3 ⟨R2, A2, c2', B2, d2, rfl, v2, r2, b2'⟩
          have z3 := b2'.size
          clear HE y0 y1 y2 y3 y4 y5 y6 yf
          obtain ⟨w4, hw4⟩ : ∃ w4, w3.alloc (.cells #[.slice A2 y.s.ss.length c2', .int .i64 y.s.f, .int .i64 y.s.l, .int .i64 y.s.r, .int .i64 y.s.c, .slice B2 y.ds.length d2, .int .i64 y.q] 31) = w4 := ⟨_, rfl⟩
          have b34 : Below w3.heap.size w3 w4 := by rw [← hw4]; exact bel_alloc _ _
          have NB : Hid (Bx w4 w3.heap.size 31 #[.slice A2 y.s.ss.length c2', .int .i64 y.s.f, .int .i64 y.s.l, .int .i64 y.s.r, .int .i64 y.s.c, .slice B2 y.ds.length d2, .int .i64 y.q]) := by rw [← hw4]; exact Bx.new _ _ _
          have z4 : w3.heap.size < w4.heap.size := NB.out.lt
          have V2 := Lib.hid (v2.below b34 r2)
          have b14 := bel_trans b2' b34
          have Bo := Lib.hid (S.out.box.below b14)
          have L1 := Lib.hid (S.out.l1.below b14 S.out.l1.lt)
          have L2 := Lib.hid (S.out.l2.below b14 S.out.l2.lt)
          have O4 := Lib.hid (bel_trans S.out.old b14)
          have zg := S.out.box.lt
          have zb1 := S.out.l1.lt
          have zb2 := S.out.l2.lt
          have zw := S.out.old.size
          have n12 := S.out.n12
          have n1 := S.out.n1
          have n2 := S.out.n2
          have zl := S.out.low
          have zl1 := S.out.l1.low
          have zl2 := S.out.l2.low
          obtain ⟨q1, q2, q3, q4⟩ := r2
          clear b2' b34 v2
          skip
          have ca1 : w4.cell? ⟨b1, o1, none⟩ = some (.int .i64 z) := by have := L1.out.cells 0 (by omega); simpa using this
          have hle1 := L1.out.le
          have hle2 := L2.out.le
          have L1' := Lib.hid (li_tail L1.out)
          have L2' := Lib.hid (li_tail L2.out)
          have F := Lib.hid (Ls.put (ca2 := c2') (cb2 := d2) (lo := wr.heap.size) Bo.out V2.out ⟨q1, by omega, q3, by omega⟩ zw zg L1'.out L2'.out n12 n1 n2 zl O4.out (by omega) (by omega))
          have HL9 : Hid (L'.length = m') := Lib.hid (by have := HL.out; simpa using this)
          clear S P V2 L1 L2 O4 L1' L2'
          obtain ⟨p0, p1, p2, p3, p4, p5, p6, pf⟩ := NB.out.cells7
          obtain ⟨y0, y1, y2, y3, y4, y5, y6, yf⟩ := Bo.out.cells7
          go_wp2
          go_roundw
          case rel => exact ⟨k + 1, m', b1, if k1 = 0 then o1 else o1 + 1, k1, L', b2, if k2 = 0 then o2 else o2 + 1, k2, U', now, t, y, R2, A2, c2', B2, d2, by (first | rfl | (split <;> rfl)), by (first | rfl | (split <;> rfl)), rfl, rfl, by go_num, by omega, HL9.out, by have := HP.out; simpa using this, F.out⟩
          case measure => simp [intOf]; omega
        skip
      · skip
        have r90 : 0 ≤ d % 9 := by omega
        have r91 : d % 9 < 9 := by omega
        obtain ⟨nw, hnw⟩ : ∃ nw, now + d % 9 = nw := ⟨_, rfl⟩
        have nw0 : 0 ≤ nw := by omega
        have nw1 : nw ≤ 8 * ((k : Int) + 1) := by have := P.out.now1; omega
        have nw2 : nw ≤ 10000 := by omega
        have HQ := Lib.hid (P.out.exp nw0 nw1)
        obtain ⟨y, hy⟩ : ∃ y, exX x nw = y := ⟨_, rfl⟩
        obtain ⟨G, hG⟩ : ∃ G, exL x nw = G := ⟨_, rfl⟩
        rw [hy, hG] at HQ
        have hGl : G.length ≤ 60 := by rw [← hG]; have := exL_few x nw; have := P.out.dlen; have := HL.out; omega
        have HE : Hid (Calls Try.prog 17 #[.agg #[.slice Ax x.s.ss.length ca, .int .i64 x.s.f, .int .i64 x.s.l, .int .i64 x.s.r, .int .i64 x.s.c, .slice Bx' x.ds.length cb, .int .i64 x.q], .int .i64 nw] wr (NewLI wr y G)) := by
          rw [← hy, ← hG]
          exact implExpire_any Ax ca x Bx' cb nw R wr (by have := (Qx.ids_facts P.out.lv.ok).2.2.2.2; omega) (by have := P.out.lv.hp.few; omega) S.out.row (S.out.rg.wide (Nat.zero_le _) (Nat.le_refl _))
        have Ul : Hid (U.length = m) := by show U.length = m; rw [P.out.len]; exact HL.out
        clear hy hG
        obtain ⟨y0, y1, y2, y3, y4, y5, y6, yf⟩ := S.out.box.cells7
        go_wp2_with fail
        refine HE.out.mono ?_
        rintro e w3 ⟨R2, A2, c2', B2, d2, C, cc, lG, hG9, rfl, v2, r2, i2, li1, li2, li3, li4, b2'⟩
        have z3 := b2'.size
        clear HE y0 y1 y2 y3 y4 y5 y6 yf hnw
        obtain ⟨w4, hw4⟩ : ∃ w4, w3.alloc (.cells #[.slice A2 y.s.ss.length c2', .int .i64 y.s.f, .int .i64 y.s.l, .int .i64 y.s.r, .int .i64 y.s.c, .slice B2 y.ds.length d2, .int .i64 y.q] 31) = w4 := ⟨_, rfl⟩
        have b34 : Below w3.heap.size w3 w4 := by rw [← hw4]; exact bel_alloc _ _
        have NB : Hid (Bx w4 w3.heap.size 31 #[.slice A2 y.s.ss.length c2', .int .i64 y.s.f, .int .i64 y.s.l, .int .i64 y.s.r, .int .i64 y.s.c, .slice B2 y.ds.length d2, .int .i64 y.q]) := by rw [← hw4]; exact Bx.new _ _ _
        have z4 : w3.heap.size < w4.heap.size := NB.out.lt
        have V2 := Lib.hid (v2.below b34 r2)
        have IG := Lib.hid (i2.below b34 li2)
        have b14 := bel_trans b2' b34
        have Bo := Lib.hid (S.out.box.below b14)
        have L1 := Lib.hid (S.out.l1.below b14 S.out.l1.lt)
        have L2 := Lib.hid (S.out.l2.below b14 S.out.l2.lt)
        have O4 := Lib.hid (bel_trans S.out.old b14)
        have zg := S.out.box.lt
        have zb1 := S.out.l1.lt
        have zb2 := S.out.l2.lt
        have zw := S.out.old.size
        have n1 := S.out.n1
        have n2 := S.out.n2
        have zl := S.out.low
        obtain ⟨q1, q2, q3, q4⟩ := r2
        clear b2' b34 v2 i2 S b14
        obtain ⟨w5, hw5⟩ : ∃ w5, w4.alloc (.cells #[] 3) = w5 := ⟨_, rfl⟩
        obtain ⟨w6, hw6⟩ : ∃ w6, w5.alloc (.cells #[] 3) = w6 := ⟨_, rfl⟩
        have b45 : Below w4.heap.size w4 w5 := by rw [← hw5]; exact bel_alloc _ _
        have b56 : Below w5.heap.size w5 w6 := by rw [← hw6]; exact bel_alloc _ _
        have zz5 : w4.heap.size < w5.heap.size := by rw [← hw5]; simp
        have zz6 : w5.heap.size < w6.heap.size := by rw [← hw6]; simp
        have E3 : Hid (Li w6 w.heap.size w4.heap.size 0 0 0 []) := by
          have h : Li w5 w4.heap.size w4.heap.size 0 0 0 [] := by rw [← hw5]; exact Li.empty w4 3
          have h' := h.below b56 h.lt
          exact ⟨rfl, Nat.le_refl _, by omega, h'.lt, h'.cells, h'.room⟩
        have E4 : Hid (Li w6 w.heap.size w5.heap.size 0 0 0 []) := by
          have h : Li w6 w5.heap.size w5.heap.size 0 0 0 [] := by rw [← hw6]; exact Li.empty w5 3
          exact ⟨rfl, Nat.le_refl _, by omega, h.lt, h.cells, h.room⟩
        have B6 := Lib.hid (bel_trans b45 b56)
        clear b45 b56
        go_wp2
        clear hw4 hw5 hw6
        have Hz9 : Hid (gone nw ((L.zip U).take 0) = [] ∧ stay nw ((L.zip U).take 0) = []) := ⟨rfl, rfl⟩
        obtain ⟨wo, rfl⟩ : ∃ wo, wo = wr := ⟨_, rfl⟩
        go_loopw [16, 17, 18, 19] (fun av bv nv jv wx => ∃ (j m9 b3 o3 c3 b4 o4 c4 : Nat), av = .slice (some ⟨b3, o3, none⟩) m9 c3 ∧ bv = .slice (some ⟨b4, o4, none⟩) m9 c4 ∧ nv = .int .i64 ((gone nw ((L.zip U).take j)).length : Int) ∧ jv = .int .i64 j ∧ j ≤ m ∧ (stay nw ((L.zip U).take j)).length = m9
          ∧ Li wx w.heap.size b3 o3 m9 c3 ((stay nw ((L.zip U).take j)).map Prod.fst) ∧ Li wx w.heap.size b4 o4 m9 c4 ((stay nw ((L.zip U).take j)).map Prod.snd) ∧ b3 ≠ b4 ∧ w4.heap.size ≤ b3 ∧ w4.heap.size ≤ b4 ∧ Below w4.heap.size w4 wx) (fun _ _ _ jv _ => m - (intOf jv).toNat)
        case atStart => exact ⟨0, 0, _, 0, 0, _, 0, 0, rfl, rfl, rfl, rfl, Nat.zero_le _, rfl, E3.out, E4.out, by omega, by omega, by omega, B6.out⟩
        case round =>
          obtain ⟨j, m9, b3, o3, c3, b4, o4, c4, rfl, rfl, rfl, rfl, hj, hm9, l3, l4, n34, g3, g4, bx⟩ := hrel
          have L3 := Lib.hid l3
          have L4 := Lib.hid l4
          have BX := Lib.hid bx
          have Hm9 := Lib.hid hm9
          clear l3 l4 bx hm9 E3 E4 B6 Hz9
          have zx := BX.out.size
          have glen : (gone nw ((L.zip U).take j)).length ≤ 60 := by
            have h1 : (gone nw ((L.zip U).take j)).length ≤ ((L.zip U).take j).length := List.length_filter_le _ _
            rw [List.length_take] at h1
            omega
          have slen : m9 ≤ 60 := by
            have h1 : (stay nw ((L.zip U).take j)).length ≤ ((L.zip U).take j).length := List.length_filter_le _ _
            rw [List.length_take, Hm9.out] at h1
            omega
          by_cases hjm : j < m
          · have hjm' : (j : Int) < (m : Int) := by omega
            have hj0 : (0 : Int) ≤ (j : Int) := by omega
            obtain ⟨uj, huj⟩ : ∃ uj, U.getD j 0 = uj := ⟨_, rfl⟩
            obtain ⟨lj, hlj⟩ : ∃ lj, L.getD j 0 = lj := ⟨_, rfl⟩
            have cu := (L2.out.below BX.out (by omega)).cells j hjm
            have cl := (L1.out.below BX.out (by omega)).cells j hjm
            rw [huj] at cu
            rw [hlj] at cl
            have Hz := Lib.hid (zip_take (L := L) (U := U) (j := j) P.out.len (by rw [HL.out]; exact hjm))
            rw [hlj, huj] at Hz
            by_cases hle : uj ≤ nw
            · have hin : lj ∈ G := by have := HQ.out.1 j (by rw [HL.out]; exact hjm) (by rw [huj]; exact hle); rw [hlj] at this; exact this
              have Hs1 : Hid (stay nw ((L.zip U).take (j + 1)) = stay nw ((L.zip U).take j)) := by show stay nw _ = _; rw [Hz.out, stay_snoc, if_pos hle]
              have Hg1 : Hid ((gone nw ((L.zip U).take (j + 1))).length = (gone nw ((L.zip U).take j)).length + 1) := by show (gone nw _).length = _; rw [Hz.out, gone_snoc, if_pos hle]
              clear huj hlj Hz
              have IX := Lib.hid (IG.out.below BX.out (by omega))
              go_wp2_with fail
              refine (Que.within_any C G.length cc G lj wr rfl (by omega) IX.out.ints).mono ?_
              rintro e w7 ⟨rfl, b7⟩
              rw [decide_eq_true hin]
              have z7 := b7.size
              replace L3 := Lib.hid (L3.out.below b7 L3.out.lt)
              replace L4 := Lib.hid (L4.out.below b7 L4.out.lt)
              replace BX := Lib.hid (BX.out.trans (b7.mono zx))
              clear b7 hin cu cl
              generalize (gone nw ((L.zip U).take j)).length = gl at glen Hg1
              go_wp2
              go_roundw
              case rel => exact ⟨j + 1, m9, b3, o3, c3, b4, o4, c4, rfl, rfl, by rw [Hg1.out]; go_num, by go_num, by omega, by rw [Hs1.out]; exact Hm9.out, by rw [Hs1.out]; exact L3.out, by rw [Hs1.out]; exact L4.out, n34, g3, g4, BX.out⟩
              case measure => simp [intOf]; omega
            · have Hs1 : Hid (stay nw ((L.zip U).take (j + 1)) = stay nw ((L.zip U).take j) ++ [(lj, uj)]) := by show stay nw _ = _; rw [Hz.out, stay_snoc, if_neg hle]
              have Hg1 : Hid ((gone nw ((L.zip U).take (j + 1))).length = (gone nw ((L.zip U).take j)).length) := by show (gone nw _).length = _; rw [Hz.out, gone_snoc, if_neg hle]
              clear huj hlj Hz
              generalize stay nw ((L.zip U).take j) = sj at L3 L4 Hm9 Hs1
              obtain ⟨w7, hw7⟩ : ∃ w7, wr.alloc (.cells #[.int .i64 lj] 3) = w7 := ⟨_, rfl⟩
              have b7 : Below wr.heap.size wr w7 := by rw [← hw7]; exact bel_alloc _ _
              have hc7 : w7.cell? ⟨wr.heap.size, 0, none⟩ = some (.int .i64 lj) := by rw [← hw7]; exact cell_of_row _ _ 0 _ _ (0, 0) (heap_alloc_new wr _)
              have z7 := b7.size
              have y3l := L3.out.lt
              have y4l := L4.out.lt
              have L3' := Lib.hid (L3.out.below b7 L3.out.lt)
              go_wp2_with (at_builtin; refine wpList_append_li (lo := w.heap.size) (x := lj) (sb := wr.heap.size) rfl _ _ rfl L3'.out rfl rfl hc7 (by omega) (by omega) ?hh3)
              case hh3 =>
                intro b3' o3' c3' w8 hl8 ht8 hb8
                have z8 := ht8.out.size
                have zb8 := hl8.out.lt
                clear hw7
                replace L4 := Lib.hid (li_turn1 (L4.out.below b7 y4l) ht8.out (fun e => n34 e.symm))
                replace BX := Lib.hid ((BX.out.trans (b7.mono zx)).trans (ht8.out.below g3 (by omega)))
                have cu8 : w8.cell? ⟨b2, o2 + j, none⟩ = some (.int .i64 uj) := (World.cell?_of_block (ht8.out.block b2 (by omega) (by omega))).trans ((b7.cell (p := ⟨b2, o2 + j, none⟩) (show b2 < wr.heap.size by omega)).trans cu)
                clear b7 hc7 L3' L3 cu cl
                obtain ⟨w9, hw9⟩ : ∃ w9, w8.alloc (.cells #[.int .i64 uj] 3) = w9 := ⟨_, rfl⟩
                have b9 : Below w8.heap.size w8 w9 := by rw [← hw9]; exact bel_alloc _ _
                have hc9 : w9.cell? ⟨w8.heap.size, 0, none⟩ = some (.int .i64 uj) := by rw [← hw9]; exact cell_of_row _ _ 0 _ _ (0, 0) (heap_alloc_new w8 _)
                have z9 := b9.size
                have L4' := Lib.hid (L4.out.below b9 L4.out.lt)
                have L3 := Lib.hid (hl8.out.below b9 hl8.out.lt)
                go_wp2_with (at_builtin; refine wpList_append_li (lo := w.heap.size) (x := uj) (sb := w8.heap.size) rfl _ _ rfl L4'.out rfl rfl hc9 (by omega) (by omega) ?hh4)
                case hh4 =>
                  intro b4' o4' c4' wa hla hta hba
                  have za := hta.out.size
                  have zba := hla.out.lt
                  clear hw9
                  have n43 : b3' ≠ b4 := by omega
                  replace L3 := Lib.hid (li_turn1 L3.out hta.out n43)
                  replace BX := Lib.hid ((BX.out.trans (b9.mono (by omega))).trans (hta.out.below g4 (by omega)))
                  have Lm : Hid ((sj ++ [(lj, uj)]).length = m9 + 1) := by show (sj ++ [(lj, uj)]).length = m9 + 1; rw [List.length_append, Hm9.out]; rfl
                  have L3f : Hid (Li wa w.heap.size b3' o3' (m9 + 1) c3' ((sj ++ [(lj, uj)]).map Prod.fst)) := Lib.hid (by have := L3.out; simpa using this)
                  have L4f : Hid (Li wa w.heap.size b4' o4' (m9 + 1) c4' ((sj ++ [(lj, uj)]).map Prod.snd)) := Lib.hid (by have := hla.out; simpa using this)
                  clear b9 hc9 L4' L4 L3 hl8 ht8 hla hta cu8
                  generalize (gone nw ((L.zip U).take j)).length = gl at glen Hg1
                  go_wp2
                  go_roundw
                  case rel => exact ⟨j + 1, m9 + 1, b3', o3', c3', b4', o4', c4', rfl, rfl, by rw [Hg1.out], by go_num, by omega, by rw [Hs1.out]; exact Lm.out, by rw [Hs1.out]; exact L3f.out, by rw [Hs1.out]; exact L4f.out, by omega, by omega, by omega, BX.out⟩
                  case measure => simp [intOf]; omega
          · obtain rfl : j = m := by omega
            have htk : (L.zip U).take j = L.zip U := List.take_of_length_le (by rw [List.length_zip, Ul.out, HL.out]; omega)
            rw [htk] at glen Hm9 L3 L4 ⊢
            have Hgl := Lib.hid HQ.out.2.1
            have HP := Lib.hid HQ.out.2.2
            rw [← Hgl.out] at glen ⊢
            clear htk HQ Hgl
            have HL9 : Hid (((stay nw (L.zip U)).map Prod.fst).length = m9) := by show ((stay nw (L.zip U)).map Prod.fst).length = m9; rw [List.length_map]; exact Hm9.out
            generalize (stay nw (L.zip U)).map Prod.fst = LN9 at L3 HP HL9
            generalize (stay nw (L.zip U)).map Prod.snd = UN9 at L4 HP
            replace NB := Lib.hid (NB.out.of_block (BX.out.block _ (by omega)))
            replace Bo := Lib.hid (Bo.out.of_block (BX.out.block _ (by omega)))
            replace V2 := Lib.hid (V2.out.below BX.out (hi := 0) ⟨Nat.zero_le _, by omega, Nat.zero_le _, by omega⟩)
            replace O4 := Lib.hid (O4.out.trans (BX.out.mono (by omega)))
            have F := Lib.hid (Ls.put (ca2 := c2') (cb2 := d2) (lo := wo.heap.size) Bo.out V2.out ⟨q1, by omega, q3, by omega⟩ zw zg L3.out L4.out n34 (by omega) (by omega) zl O4.out (by omega) (by omega))
            clear P V2 L1 L2 L3 L4 O4 IG BX Hm9
            obtain ⟨p0, p1, p2, p3, p4, p5, p6, pf⟩ := NB.out.cells7
            obtain ⟨y0, y1, y2, y3, y4, y5, y6, yf⟩ := Bo.out.cells7
            go_wp2
            go_roundw
            case rel => exact ⟨k + 1, m9, b3, o3, c3, LN9, b4, o4, c4, UN9, nw, t, y, R2, A2, c2', B2, d2, rfl, rfl, rfl, rfl, by go_num, by omega, HL9.out, by have := HP.out; simpa using this, F.out⟩
            case measure => simp [intOf]; omega
        skip
    · have hends : ¬ (k : Int) < (n : Int) ∨ (k : Int) < (n : Int) ∧ ¬ (k : Int) < 100 := by
        by_cases h1 : k < n
        · exact Or.inr ⟨by omega, by omega⟩
        · exact Or.inl (by omega)
      rcases hends with h1 | ⟨h1, h2⟩
      · skip
        have hsl : x.s.ss.length ≤ 1048576 := by have := (Qx.ids_facts P.out.lv.ok).2.2.2.2; omega
        have hdl : x.ds.length ≤ 1048576 := by have := P.out.lv.hp.few; omega
        have Ul : Hid (U.length = m) := by show U.length = m; rw [P.out.len]; exact HL.out
        have hok := okL_iff.2 P.out.lv
        obtain ⟨y0, y1, y2, y3, y4, y5, y6, yf⟩ := S.out.box.cells7
        go_wp2_with fail
        refine (specLineOk_any Ax ca x Bx' cb R wr hsl hdl S.out.row (S.out.rg.wide (Nat.zero_le _) (Nat.le_refl _))).mono ?_
        rintro e w3 ⟨rfl, b3⟩
        rw [hok]
        replace S := Lib.hid (S.out.keep b3)
        have hll : llA x = L := by unfold llA; rw [if_pos hok]; exact P.out.ids
        have HLi := Lib.hid (implList_any Ax ca x Bx' cb R w3 hsl hdl S.out.row (S.out.rg.wide (Nat.zero_le _) (Nat.le_refl _)))
        rw [hll] at HLi
        clear b3 hll hok y0 y1 y2 y3 y4 y5 y6 yf
        obtain ⟨y0, y1, y2, y3, y4, y5, y6, yf⟩ := S.out.box.cells7
        go_wp2_with fail
        refine HLi.out.mono ?_
        rintro e w4 ⟨C, cc, rfl, i4, b4⟩
        rw [HL.out]
        replace S := Lib.hid (S.out.keep b4)
        clear HLi b4 y0 y1 y2 y3 y4 y5 y6 yf
        go_wp2_with fail
        refine (Que.same_same C (some ⟨b1, o1, none⟩) m cc c1 L w4 HL.out (by omega) i4.ints S.out.l1.ints).mono ?_
        rintro e w5 ⟨rfl, b5⟩
        replace S := Lib.hid (S.out.keep b5)
        clear b5 i4
        go_wp2
        go_loopw [20, 21] (fun sv jv wx => ∃ (j : Nat) (s : Int), sv = .int .i64 s ∧ jv = .int .i64 j ∧ j ≤ m ∧ Soon U j s ∧ Ls w wx g x R Ax ca Bx' cb m b1 o1 c1 L b2 o2 c2 U) (fun _ jv _ => m - (intOf jv).toNat)
        case atStart => exact ⟨0, -1, rfl, rfl, Nat.zero_le _, Soon.zero U, S.out⟩
        case round =>
          obtain ⟨j, s, rfl, rfl, hj, hso, hs⟩ := hrel
          clear S
          have S := Lib.hid hs
          have So := Lib.hid hso
          clear hs hso
          by_cases hjm : j < m
          · have hjm' : (j : Int) < (m : Int) := by omega
            have hj0 : (0 : Int) ≤ (j : Int) := by omega
            have cu := S.out.l2.cells j hjm
            obtain ⟨uj, huj⟩ : ∃ uj, U.getD j 0 = uj := ⟨_, rfl⟩
            rw [huj] at cu
            have Huj := Lib.hid huj
            clear huj
            by_cases hjz : j = 0
            · have hs1 : s = -1 := So.out.none hjz
              have HN1 := Lib.hid (So.out.take (.inl hjz))
              rw [Huj.out] at HN1
              have Hjz := Lib.hid hjz
              clear hjz
              subst hs1
              go_wp2
              go_roundw
              case rel => exact ⟨j + 1, uj, rfl, by go_num, by omega, HN1.out, S.out⟩
              case measure => simp [intOf]; omega
            · have hs0 : 0 ≤ s := by
                obtain ⟨⟨i, hi, he⟩, _⟩ := So.out.some (by omega)
                rw [← he]
                exact P.out.ul (by have := Ul.out; omega)
              have hs0' : ¬ s < 0 := by omega
              by_cases hlt : uj < s
              · have HN1 := Lib.hid (So.out.take (.inr (by rw [Huj.out]; exact hlt)))
                rw [Huj.out] at HN1
                clear hjz hs0
                go_wp2
                go_roundw
                case rel => exact ⟨j + 1, uj, rfl, by go_num, by omega, HN1.out, S.out⟩
                case measure => simp [intOf]; omega
              · have HN1 := Lib.hid (So.out.pass (by omega) (by rw [Huj.out]; exact hlt))
                clear hjz hs0
                go_wp2
                go_roundw
                case rel => exact ⟨j + 1, s, rfl, by go_num, by omega, HN1.out, S.out⟩
                case measure => simp [intOf]; omega
          · obtain rfl : j = m := by omega
            have hne : neA x = s := P.out.next_eq (by rw [Ul.out]; exact So.out)
            have HNx := Lib.hid (implNextE_any Ax ca x Bx' cb R wr hsl hdl S.out.row (S.out.rg.wide (Nat.zero_le _) (Nat.le_refl _)))
            rw [hne] at HNx
            clear hne
            obtain ⟨y0, y1, y2, y3, y4, y5, y6, yf⟩ := S.out.box.cells7
            go_wp2_with fail
            refine HNx.out.mono ?_
            rintro e w6 ⟨rfl, b6⟩
            have O6 := Lib.hid (bel_trans S.out.old b6)
            clear b6 HNx y0 y1 y2 y3 y4 y5 y6 yf
            go_wp2
            go_ret
            exact ⟨rfl, O6.out⟩
        skip
      · skip
        have hsl : x.s.ss.length ≤ 1048576 := by have := (Qx.ids_facts P.out.lv.ok).2.2.2.2; omega
        have hdl : x.ds.length ≤ 1048576 := by have := P.out.lv.hp.few; omega
        have Ul : Hid (U.length = m) := by show U.length = m; rw [P.out.len]; exact HL.out
        have hok := okL_iff.2 P.out.lv
        obtain ⟨y0, y1, y2, y3, y4, y5, y6, yf⟩ := S.out.box.cells7
        go_wp2_with fail
        refine (specLineOk_any Ax ca x Bx' cb R wr hsl hdl S.out.row (S.out.rg.wide (Nat.zero_le _) (Nat.le_refl _))).mono ?_
        rintro e w3 ⟨rfl, b3⟩
        rw [hok]
        replace S := Lib.hid (S.out.keep b3)
        have hll : llA x = L := by unfold llA; rw [if_pos hok]; exact P.out.ids
        have HLi := Lib.hid (implList_any Ax ca x Bx' cb R w3 hsl hdl S.out.row (S.out.rg.wide (Nat.zero_le _) (Nat.le_refl _)))
        rw [hll] at HLi
        clear b3 hll hok y0 y1 y2 y3 y4 y5 y6 yf
        obtain ⟨y0, y1, y2, y3, y4, y5, y6, yf⟩ := S.out.box.cells7
        go_wp2_with fail
        refine HLi.out.mono ?_
        rintro e w4 ⟨C, cc, rfl, i4, b4⟩
        rw [HL.out]
        replace S := Lib.hid (S.out.keep b4)
        clear HLi b4 y0 y1 y2 y3 y4 y5 y6 yf
        go_wp2_with fail
        refine (Que.same_same C (some ⟨b1, o1, none⟩) m cc c1 L w4 HL.out (by omega) i4.ints S.out.l1.ints).mono ?_
        rintro e w5 ⟨rfl, b5⟩
        replace S := Lib.hid (S.out.keep b5)
        clear b5 i4
        go_wp2
        go_loopw [20, 21] (fun sv jv wx => ∃ (j : Nat) (s : Int), sv = .int .i64 s ∧ jv = .int .i64 j ∧ j ≤ m ∧ Soon U j s ∧ Ls w wx g x R Ax ca Bx' cb m b1 o1 c1 L b2 o2 c2 U) (fun _ jv _ => m - (intOf jv).toNat)
        case atStart => exact ⟨0, -1, rfl, rfl, Nat.zero_le _, Soon.zero U, S.out⟩
        case round =>
          obtain ⟨j, s, rfl, rfl, hj, hso, hs⟩ := hrel
          clear S
          have S := Lib.hid hs
          have So := Lib.hid hso
          clear hs hso
          by_cases hjm : j < m
          · have hjm' : (j : Int) < (m : Int) := by omega
            have hj0 : (0 : Int) ≤ (j : Int) := by omega
            have cu := S.out.l2.cells j hjm
            obtain ⟨uj, huj⟩ : ∃ uj, U.getD j 0 = uj := ⟨_, rfl⟩
            rw [huj] at cu
            have Huj := Lib.hid huj
            clear huj
            by_cases hjz : j = 0
            · have hs1 : s = -1 := So.out.none hjz
              have HN1 := Lib.hid (So.out.take (.inl hjz))
              rw [Huj.out] at HN1
              have Hjz := Lib.hid hjz
              clear hjz
              subst hs1
              go_wp2
              go_roundw
              case rel => exact ⟨j + 1, uj, rfl, by go_num, by omega, HN1.out, S.out⟩
              case measure => simp [intOf]; omega
            · have hs0 : 0 ≤ s := by
                obtain ⟨⟨i, hi, he⟩, _⟩ := So.out.some (by omega)
                rw [← he]
                exact P.out.ul (by have := Ul.out; omega)
              have hs0' : ¬ s < 0 := by omega
              by_cases hlt : uj < s
              · have HN1 := Lib.hid (So.out.take (.inr (by rw [Huj.out]; exact hlt)))
                rw [Huj.out] at HN1
                clear hjz hs0
                go_wp2
                go_roundw
                case rel => exact ⟨j + 1, uj, rfl, by go_num, by omega, HN1.out, S.out⟩
                case measure => simp [intOf]; omega
              · have HN1 := Lib.hid (So.out.pass (by omega) (by rw [Huj.out]; exact hlt))
                clear hjz hs0
                go_wp2
                go_roundw
                case rel => exact ⟨j + 1, s, rfl, by go_num, by omega, HN1.out, S.out⟩
                case measure => simp [intOf]; omega
          · obtain rfl : j = m := by omega
            have hne : neA x = s := P.out.next_eq (by rw [Ul.out]; exact So.out)
            have HNx := Lib.hid (implNextE_any Ax ca x Bx' cb R wr hsl hdl S.out.row (S.out.rg.wide (Nat.zero_le _) (Nat.le_refl _)))
            rw [hne] at HNx
            clear hne
            obtain ⟨y0, y1, y2, y3, y4, y5, y6, yf⟩ := S.out.box.cells7
            go_wp2_with fail
            refine HNx.out.mono ?_
            rintro e w6 ⟨rfl, b6⟩
            have O6 := Lib.hid (bel_trans S.out.old b6)
            clear b6 HNx y0 y1 y2 y3 y4 y5 y6 yf
            go_wp2
            go_ret
            exact ⟨rfl, O6.out⟩
        skip
end Go.Proofs.Ytpjelojmkmednaa.Ln
