/- The law of FnConns walked. -/
import Derived.Test.YtbmfleakldhabaaDoorKnM
import Derived.Test.YtbmfleakldhabaaDoorKnP
import Derived.Test.YtbmfleakldhabaaDoorKnD
import Derived.Laws.StructEq
namespace Go.Proofs.YtbmfleakldhabaaDoor.Kn
open Go.RowKit Go.Deep Base Tick Rw Cf

theorem big_any (A : Option Addr) (n cap : Nat) (w : World) (hm : n ≤ maxLen) : Calls Tryd.prog 7 #[.slice A n cap] w fun e w' => e = .returned (.bool (decide (1048576 < n))) ∧ w = w' := by
  unfold maxLen at hm
  go_enter Tryd.func7, Tryd.ntmps7
  go_wp2
  go_ret
  exact ⟨ret_bool (by simp; omega), rfl⟩

set_option maxHeartbeats 400000 in
theorem same_any (A1 A2 : Option Addr) (n c1 c2 : Nat) (zs : List Int) (w : World) (hn : zs.length = n) (hm : n ≤ 1048576) (h1 : Ints w A1 zs) (h2 : Ints w A2 zs) :
    Calls Tryd.prog 11 #[.slice A1 n c1, .slice A2 n c2] w fun e w' => e = .returned (.bool true) ∧ Below w.heap.size w w' := by
  have Hn := Lib.hid hn
  clear hn
  have H1 := Lib.hid h1
  have H2 := Lib.hid h2
  clear h1 h2
  go_enter Tryd.func11, Tryd.ntmps11
  go_wp2
  go_loopw [5] (fun i wr => ∃ k : Nat, k ≤ n ∧ i = .int .i64 k ∧ Below w.heap.size w wr) (fun i _ => n - (intOf i).toNat)
  case atStart => exact ⟨0, Nat.zero_le _, rfl, Below.refl _ _⟩
  case round =>
    obtain ⟨k, hk, rfl, hr⟩ := hrel
    by_cases hlt : k < n
    · obtain ⟨b, off, rfl, hc⟩ := H1.out.below hr (by have := Hn.out; omega)
      have hc1 := hc k (by have := Hn.out; omega)
      clear hc
      obtain ⟨b', off', rfl, hc⟩ := H2.out.below hr (by have := Hn.out; omega)
      have hc2 := hc k (by have := Hn.out; omega)
      clear hc
      generalize zs.getD k 0 = z at hc1 hc2
      go_wp2
      go_region
      all_goals
        go_wp2
        go_roundw
        case rel => exact ⟨k + 1, by omega, by go_num, by first | exact hr | exact hr.drew⟩
        case measure => simp [intOf]; omega
    · have hk1 : ¬ (k : Int) < (n : Int) := by omega
      go_wp2
      go_ret
      exact ⟨rfl, hr⟩

theorem stoodConn : Tryd.prog.stoodInHeld 28 = false := by kernel_rfl
theorem guardConn : Tryd.prog.eqGuardType Tryd.prog.depth 28 = false := by kernel_rfl
theorem fieldsConn : Tryd.prog.underlying 28 = some (.struct (Tryd.prog.fieldsOf 28)) := by kernel_rfl

theorem eqf_cons (d : Nat) (xs ys : Array Value) (f : Field) (fs : List Field) (a : Value) (w : World) (hn : f.name ≠ "_") (h1 : (part f.type xs f.offset).run Tryd.prog w = .ok a w) (h2 : (part f.type ys f.offset).run Tryd.prog w = .ok a w) (h3 : (Op.equalIn d f.type a a).run Tryd.prog w = .ok true w) : (Op.eqFields d xs ys (f :: fs)).run Tryd.prog w = (Op.eqFields d xs ys fs).run Tryd.prog w := by
  simp [Op.eqFields, hn, h1, h2, h3]

theorem eqf_all (d : Nat) (xs : Array Value) (w : World) : ∀ (l : List (String × TypeId × Nat)) (fs : List Field), fs.map (fun f => (f.name, f.type, f.offset)) = l →
    (∀ x, x ∈ l → x.1 ≠ "_" ∧ ∃ a, (part x.2.1 xs x.2.2).run Tryd.prog w = .ok a w ∧ (Op.equalIn d x.2.1 a a).run Tryd.prog w = .ok true w) → (Op.eqFields d xs xs fs).run Tryd.prog w = .ok true w
  | [], fs, h, _ => by
    have : fs = [] := by simpa using h
    rw [this]
    simp [Op.eqFields]
  | x :: l, [], h, _ => by simp at h
  | x :: l, f :: fs, h, H => by
    simp only [List.map_cons, List.cons.injEq] at h
    obtain ⟨rfl, h⟩ := h
    obtain ⟨hn, a, h1, h3⟩ := H _ (List.mem_cons_self ..)
    rw [eqf_cons d xs xs f fs a w hn h1 h1 h3]
    exact eqf_all d xs w l fs h (fun y hy => H y (List.mem_cons_of_mem _ hy))

theorem fsConn : (Tryd.prog.fieldsOf 28).toList.map (fun f => (f.name, f.type, f.offset)) = [("Id", 3, 0), ("State", 3, 1), ("Born", 3, 2), ("Since", 3, 3), ("Ticket", 3, 4), ("Told", 4, 5)] := by kernel_rfl
theorem undI : Tryd.prog.underlying 3 = some (.int .i64) := by kernel_rfl
theorem undB : Tryd.prog.underlying 4 = some .bool := by kernel_rfl

set_option maxHeartbeats 1000000 in
theorem neqConn (k : Nat → Int) (t : Bool) (w : World) : (binOp .neq 28 (.agg #[.int .i64 (k 0), .int .i64 (k 1), .int .i64 (k 2), .int .i64 (k 3), .int .i64 (k 4), .bool t]) (.agg #[.int .i64 (k 0), .int .i64 (k 1), .int .i64 (k 2), .int .i64 (k 3), .int .i64 (k 4), .bool t])).run Tryd.prog w = .ok (.bool false) w := by
  rw [run_neq_struct, run_equalIn_struct w 9999 28 _ _ fieldsConn stoodConn, eqf_all 9999 _ w _ _ fsConn ?_]
  · rfl
  · intro x hx
    simp only [List.mem_cons, List.not_mem_nil, or_false] at hx
    rcases hx with rfl | rfl | rfl | rfl | rfl | rfl
    · exact ⟨by decide, .int .i64 (k 0), by kernel_rfl, by rw [run_equalIn_int w 9998 _ _ _ _ _ undI]; simp⟩
    · exact ⟨by decide, .int .i64 (k 1), by kernel_rfl, by rw [run_equalIn_int w 9998 _ _ _ _ _ undI]; simp⟩
    · exact ⟨by decide, .int .i64 (k 2), by kernel_rfl, by rw [run_equalIn_int w 9998 _ _ _ _ _ undI]; simp⟩
    · exact ⟨by decide, .int .i64 (k 3), by kernel_rfl, by rw [run_equalIn_int w 9998 _ _ _ _ _ undI]; simp⟩
    · exact ⟨by decide, .int .i64 (k 4), by kernel_rfl, by rw [run_equalIn_int w 9998 _ _ _ _ _ undI]; simp⟩
    · exact ⟨by decide, .bool t, by kernel_rfl, by rw [run_equalIn_bool' w 9998 _ _ _ undB]; simp⟩
/-- The law of connections walked. -/
theorem pair_eq {α β : Type} (x : α × β) : x = (x.1, x.2) := rfl

def CR (b : Nat) (cf : Nat → Int) (w : World) : Prop := w.heap[b]? = some (.cells #[.int .i64 (cf 0), .int .i64 (cf 1), .int .i64 (cf 2), .int .i64 (cf 3), .int .i64 (cf 4), .int .i64 (cf 5), .int .i64 (cf 6), .int .i64 (cf 7), .int .i64 (cf 8), .int .i64 (cf 9), .int .i64 (cf 10), .int .i64 (cf 11), .int .i64 (cf 12), .int .i64 (cf 13)] 37 (0, 0))
theorem CR.lt {b : Nat} {cf : Nat → Int} {w : World} (h : CR b cf w) : b < w.heap.size := by
  unfold CR at h
  exact (Array.getElem?_eq_some_iff.1 h).1
theorem CR.below {b : Nat} {cf : Nat → Int} {w w' : World} (h : CR b cf w) (hb : Below w.heap.size w w') : CR b cf w' := (hb.block b h.lt).trans h
theorem CR.new (cf : Nat → Int) (w : World) : CR w.heap.size cf (w.alloc (.cells #[.int .i64 (cf 0), .int .i64 (cf 1), .int .i64 (cf 2), .int .i64 (cf 3), .int .i64 (cf 4), .int .i64 (cf 5), .int .i64 (cf 6), .int .i64 (cf 7), .int .i64 (cf 8), .int .i64 (cf 9), .int .i64 (cf 10), .int .i64 (cf 11), .int .i64 (cf 12), .int .i64 (cf 13)] 37)) := heap_alloc_new w _

theorem dfl_any (w : World) : Calls Tryd.prog 14 #[] w fun e w' => e = .returned (.agg #[.int .i64 (dflt 0), .int .i64 (dflt 1), .int .i64 (dflt 2), .int .i64 (dflt 3), .int .i64 (dflt 4), .int .i64 (dflt 5), .int .i64 (dflt 6), .int .i64 (dflt 7), .int .i64 (dflt 8), .int .i64 (dflt 9), .int .i64 (dflt 10), .int .i64 (dflt 11), .int .i64 (dflt 12), .int .i64 (dflt 13)]) ∧ Below w.heap.size w w' := specDefault_any w

set_option maxRecDepth 100000 in
set_option maxHeartbeats 4000000 in
theorem lawConns (A : Option Addr) (n cap : Nat) (zs : List Int) (w : World) (hn : zs.length = n) (hm : n ≤ maxLen) (hb : Draw.Bytes w w.heap.size A zs) (he : ∃ p, Er p w) :
    Calls Tryd.prog 3 #[.slice A n cap] w fun e w' => e = .returned (.bool true) ∧ Below w.heap.size w w' := by
  obtain ⟨p, he⟩ := he
  have Hn := Lib.hid hn
  have HB := Lib.hid hb
  have HE := Lib.hid he
  have Hm := Lib.hid hm
  clear hn hb he hm
  go_enter Tryd.func3, Tryd.ntmps3
  go_wp2_with fail
  refine (big_any A n cap w Hm.out).mono ?_
  rintro e w' ⟨rfl, rfl⟩
  by_cases hbig : 1048576 < n
  · rw [decide_eq_true hbig]
    go_wp2
    go_ret
    exact ⟨rfl, Below.refl _ _⟩
  rw [decide_eq_false hbig]
  go_wp2_with fail
  refine (Draw.drawPl_any A n cap zs w Hn.out (by omega) HB.out).mono ?_
  rintro e w1 ⟨id, A1, c1, zss, rfl, hl, hi0, hI, b1⟩
  have HI := Lib.hid hI
  have HL := Lib.hid hl
  have Hi := Lib.hid (fun i h => Nat.le_trans (hi0 i h) (by decide : 3 ≤ 1048576))
  have B := Lib.hid b1
  clear hI b1 hi0 hl
  go_wp2_with fail
  refine (specPlay_any id A1 zss.length c1 zss w1 rfl (by have := HL.out; omega) Hi.out HI.out).mono ?_
  rintro e w2 ⟨Aw, cw, rfl, iv, bb⟩
  replace HI := Lib.hid (HI.out.below bb)
  replace B := Lib.hid (bel_trans B.out bb)
  have HW := Lib.hid iv.ints
  clear iv bb
  have HPl := Lib.hid (fun W h1 h2 => implPlay_any id A1 zss.length c1 zss p W rfl (by have := HL.out; omega) Hi.out h1 h2)
  unfold PlEnd at HPl
  have hfin : (finP id zss).1 0 = 0 ∨ (okN (finP id zss).1 (finP id zss).2 = true ∧ (finP id zss).2 = false) := by
    cases h : goP id zss with
    | true => exact .inr (fin_ok h)
    | false => left; unfold finP; rw [if_neg (by rw [h]; decide)]
  have hf2 := tol_few id zss
  generalize (finP id zss).1 = fk at HPl hfin
  generalize (finP id zss).2 = ft at HPl hfin
  generalize tolP id zss = ids at HPl HW hf2
  have HK := Lib.hid hfin
  clear hfin
  have bb := bel_alloc w2 (.cells #[.int .i64 (fk 0), .int .i64 (fk 1), .int .i64 (fk 2), .int .i64 (fk 3), .int .i64 (fk 4), .bool ft] 28)
  have KW := Lib.hid (KC.new fk ft w2 28)
  replace HI := Lib.hid (HI.out.below bb)
  replace HW := Lib.hid (HW.out.below bb)
  replace B := Lib.hid (bel_trans B.out bb)
  clear bb
  go_wp2_with fail
  refine (HPl.out _ HI.out (HE.out.below B.out)).mono ?_
  rintro e w3 ⟨Ac, cc, rfl, iv, bb⟩
  replace KW := Lib.hid (KW.out.below bb)
  replace HW := Lib.hid (HW.out.below bb)
  replace B := Lib.hid (bel_trans B.out bb)
  have HC := Lib.hid iv.ints
  have z2 : w2.heap.size < w3.heap.size := KW.out.lt
  clear iv bb HI HPl
  have bb := bel_alloc w3 (.cells #[.int .i64 (fk 0), .int .i64 (fk 1), .int .i64 (fk 2), .int .i64 (fk 3), .int .i64 (fk 4), .bool ft] 28)
  have KI := Lib.hid (KC.new fk ft w3 28)
  replace KW := Lib.hid (KW.out.below bb)
  replace HW := Lib.hid (HW.out.below bb)
  replace HC := Lib.hid (HC.out.below bb)
  replace B := Lib.hid (bel_trans B.out bb)
  clear bb
  obtain ⟨kw0, kw1, kw2, kw3, kw4, kw5⟩ := KW.out
  obtain ⟨ki0, ki1, ki2, ki3, ki4, ki5⟩ := KI.out
  have nq := neqConn fk ft
  go_wp2_with fail
  refine (same_any Ac Aw ids.length cc cw ids _ rfl (by omega) HC.out HW.out).mono ?_
  rintro e w4 ⟨rfl, bb⟩
  clear kw0 kw1 kw2 kw3 kw4 kw5 ki0 ki1 ki2 ki3 ki4 ki5 nq
  replace KW := Lib.hid (KW.out.below bb)
  replace KI := Lib.hid (KI.out.below bb)
  replace B := Lib.hid (bel_trans B.out bb)
  clear bb HW HC
  obtain ⟨kw0, kw1, kw2, kw3, kw4, kw5⟩ := KW.out
  by_cases h0 : fk 0 = 0
  · have hb0 : (fk 0 == 0) = true := by simp [h0]
    go_wp2
    go_ret
    exact ⟨rfl, B.out⟩
  obtain ⟨hok, rfl⟩ := HK.out.resolve_left h0
  have hb0 : (fk 0 == 0) = false := by simp [h0]
  obtain ⟨ki0, ki1, ki2, ki3, ki4, ki5⟩ := KI.out
  go_wp2_with fail
  refine (specConnOk_any fk false _).mono ?_
  rintro e w5 ⟨rfl, bb⟩
  rw [hok]
  clear kw0 kw1 kw2 kw3 kw4 kw5 ki0 ki1 ki2 ki3 ki4 ki5
  replace KI := Lib.hid (KI.out.below bb)
  replace B := Lib.hid (bel_trans B.out bb)
  clear bb KW
  obtain ⟨q0, q1, q2, q3, q4, q5⟩ := (ok_iff fk false).1 hok
  have hst : (fk 1 == 3) = decide (0 < fk 4) := by
    rcases q5 with ⟨e1, e2, _⟩ | ⟨e1, e2, _⟩
    · rw [e1, decide_eq_true (by omega)]; rfl
    · rw [e2]; simp [e1]
  clear q0 q1 q2 q3 q4 q5
  obtain ⟨ki0, ki1, ki2, ki3, ki4, ki5⟩ := KI.out
  have HDf : Hid (∀ W, Calls Tryd.prog 14 #[] W fun e w' => e = .returned (.agg #[.int .i64 (dflt 0), .int .i64 (dflt 1), .int .i64 (dflt 2), .int .i64 (dflt 3), .int .i64 (dflt 4), .int .i64 (dflt 5), .int .i64 (dflt 6), .int .i64 (dflt 7), .int .i64 (dflt 8), .int .i64 (dflt 9), .int .i64 (dflt 10), .int .i64 (dflt 11), .int .i64 (dflt 12), .int .i64 (dflt 13)]) ∧ Below W.heap.size W w') := Lib.hid dfl_any
  have HN := Lib.hid (fun W => implNextConnDue_any dflt fk false W)
  have HU := Lib.hid (fun x W => implConnDue_any dflt fk false x W)
  have HD := Lib.hid (due_facts fk hok)
  generalize dlL dflt fk false = dl at HN HU HD
  generalize dflt = cf at HDf HN HU
  generalize nextL dl = m at HN HD
  by_cases h4 : fk 1 = 4
  · have hb4 : (fk 1 == 4) = true := by simp [h4]
    have HC4 : Hid (∀ e, canS fk false e (fk 3) 1 = false) := fun e => can_closed h4
    clear h4 hok HK
    go_wp2_with fail
    clear ki0 ki1 ki2 ki3 ki4 ki5
    go_loopw [9] (fun i wr => ∃ k : Nat, k ≤ 8 ∧ i = .int .i64 k ∧ KC w3.heap.size fk false wr ∧ Below w.heap.size w wr) (fun i _ => 8 - (intOf i).toNat)
    case atStart => exact ⟨0, by omega, rfl, KI.out, B.out⟩
    case round =>
      clear KI B
      obtain ⟨k, hk, rfl, ki, b⟩ := hrel
      have KI := Lib.hid ki
      have B := Lib.hid b
      clear ki b
      by_cases hlt : k < 8
      · obtain ⟨ki0, ki1, ki2, ki3, ki4, ki5⟩ := KI.out
        go_wp2_with fail
        refine (implStep_any fk false k (fk 3) 1 p _ (HE.out.below B.out)).mono ?_
        rintro e wS ⟨rfl, bb⟩
        rw [HC4.out]
        generalize stR fk false k (fk 3) 1 = sr
        generalize stT fk false k (fk 3) 1 = st
        clear ki0 ki1 ki2 ki3 ki4 ki5
        replace KI := Lib.hid (KI.out.below bb)
        replace B := Lib.hid (bel_trans B.out bb)
        clear bb
        have bb := bel_alloc wS (.cells #[.int .i64 (sr 0), .int .i64 (sr 1), .int .i64 (sr 2), .int .i64 (sr 3), .int .i64 (sr 4), .bool st] 28)
        have KI2 := Lib.hid (KI.out.below bb)
        have B2 := Lib.hid (bel_trans B.out bb)
        clear bb
        go_wp2
        go_roundw
        case rel => exact ⟨k + 1, by omega, by go_num, KI2.out, B2.out⟩
        case measure => simp [intOf]; omega
      · have hk1 : ¬ (k : Int) < 8 := by omega
        clear hlt
        obtain ⟨ki0, ki1, ki2, ki3, ki4, ki5⟩ := KI.out
        go_wp2_with fail
        refine (HDf.out _).mono ?_
        rintro e wD ⟨rfl, bb⟩
        clear ki0 ki1 ki2 ki3 ki4 ki5
        replace KI := Lib.hid (KI.out.below bb)
        replace B := Lib.hid (bel_trans B.out bb)
        clear bb
        have bb := bel_alloc wD (.cells #[.int .i64 (cf 0), .int .i64 (cf 1), .int .i64 (cf 2), .int .i64 (cf 3), .int .i64 (cf 4), .int .i64 (cf 5), .int .i64 (cf 6), .int .i64 (cf 7), .int .i64 (cf 8), .int .i64 (cf 9), .int .i64 (cf 10), .int .i64 (cf 11), .int .i64 (cf 12), .int .i64 (cf 13)] 37)
        have KR := Lib.hid (CR.new cf wD)
        obtain ⟨W0, hW0⟩ : ∃ W0, wD.alloc (.cells #[.int .i64 (cf 0), .int .i64 (cf 1), .int .i64 (cf 2), .int .i64 (cf 3), .int .i64 (cf 4), .int .i64 (cf 5), .int .i64 (cf 6), .int .i64 (cf 7), .int .i64 (cf 8), .int .i64 (cf 9), .int .i64 (cf 10), .int .i64 (cf 11), .int .i64 (cf 12), .int .i64 (cf 13)] 37) = W0 := ⟨_, rfl⟩
        rw [hW0] at bb KR
        replace KI := Lib.hid (KI.out.below bb)
        replace B := Lib.hid (bel_trans B.out bb)
        clear bb
        obtain ⟨ki0, ki1, ki2, ki3, ki4, ki5⟩ := KI.out
        have hkr := KR.out
        unfold CR at hkr
        have s0 : W0.cell? ⟨wD.heap.size, 0, none⟩ = some (.int .i64 (cf 0)) := cell_of_row _ _ 0 _ _ (0, 0) hkr
        have s1 : W0.cell? ⟨wD.heap.size, 1, none⟩ = some (.int .i64 (cf 1)) := cell_of_row _ _ 1 _ _ (0, 0) hkr
        have s2 : W0.cell? ⟨wD.heap.size, 2, none⟩ = some (.int .i64 (cf 2)) := cell_of_row _ _ 2 _ _ (0, 0) hkr
        have s3 : W0.cell? ⟨wD.heap.size, 3, none⟩ = some (.int .i64 (cf 3)) := cell_of_row _ _ 3 _ _ (0, 0) hkr
        have s4 : W0.cell? ⟨wD.heap.size, 4, none⟩ = some (.int .i64 (cf 4)) := cell_of_row _ _ 4 _ _ (0, 0) hkr
        have s5 : W0.cell? ⟨wD.heap.size, 5, none⟩ = some (.int .i64 (cf 5)) := cell_of_row _ _ 5 _ _ (0, 0) hkr
        have s6 : W0.cell? ⟨wD.heap.size, 6, none⟩ = some (.int .i64 (cf 6)) := cell_of_row _ _ 6 _ _ (0, 0) hkr
        have s7 : W0.cell? ⟨wD.heap.size, 7, none⟩ = some (.int .i64 (cf 7)) := cell_of_row _ _ 7 _ _ (0, 0) hkr
        have s8 : W0.cell? ⟨wD.heap.size, 8, none⟩ = some (.int .i64 (cf 8)) := cell_of_row _ _ 8 _ _ (0, 0) hkr
        have s9 : W0.cell? ⟨wD.heap.size, 9, none⟩ = some (.int .i64 (cf 9)) := cell_of_row _ _ 9 _ _ (0, 0) hkr
        have s10 : W0.cell? ⟨wD.heap.size, 10, none⟩ = some (.int .i64 (cf 10)) := cell_of_row _ _ 10 _ _ (0, 0) hkr
        have s11 : W0.cell? ⟨wD.heap.size, 11, none⟩ = some (.int .i64 (cf 11)) := cell_of_row _ _ 11 _ _ (0, 0) hkr
        have s12 : W0.cell? ⟨wD.heap.size, 12, none⟩ = some (.int .i64 (cf 12)) := cell_of_row _ _ 12 _ _ (0, 0) hkr
        have s13 : W0.cell? ⟨wD.heap.size, 13, none⟩ = some (.int .i64 (cf 13)) := cell_of_row _ _ 13 _ _ (0, 0) hkr
        go_wp2_with fail
        refine (HN.out _).mono ?_
        rintro e wE ⟨rfl, bb⟩
        clear ki0 ki1 ki2 ki3 ki4 ki5 s0 s1 s2 s3 s4 s5 s6 s7 s8 s9 s10 s11 s12 s13 hkr
        replace KI := Lib.hid (KI.out.below bb)
        replace KR := Lib.hid (KR.out.below bb)
        replace B := Lib.hid (bel_trans B.out bb)
        clear bb
        obtain ⟨ki0, ki1, ki2, ki3, ki4, ki5⟩ := KI.out
        have hkr := KR.out
        unfold CR at hkr
        rcases HD.out with ⟨d1, d2, d3⟩ | ⟨d1, d2, d3, d4⟩
        · clear HD
          have e1 : (fk 1 != 1) = true := by simp [d2]
          have e3 : (fk 1 != 3) = true := by simp [d3]
          clear d2 d3
          go_wp2
          go_ret
          exact ⟨rfl, B.out⟩
        clear HD
        have dn : ¬ m < 0 := by omega
        have s0 : wE.cell? ⟨wD.heap.size, 0, none⟩ = some (.int .i64 (cf 0)) := cell_of_row _ _ 0 _ _ (0, 0) hkr
        have s1 : wE.cell? ⟨wD.heap.size, 1, none⟩ = some (.int .i64 (cf 1)) := cell_of_row _ _ 1 _ _ (0, 0) hkr
        have s2 : wE.cell? ⟨wD.heap.size, 2, none⟩ = some (.int .i64 (cf 2)) := cell_of_row _ _ 2 _ _ (0, 0) hkr
        have s3 : wE.cell? ⟨wD.heap.size, 3, none⟩ = some (.int .i64 (cf 3)) := cell_of_row _ _ 3 _ _ (0, 0) hkr
        have s4 : wE.cell? ⟨wD.heap.size, 4, none⟩ = some (.int .i64 (cf 4)) := cell_of_row _ _ 4 _ _ (0, 0) hkr
        have s5 : wE.cell? ⟨wD.heap.size, 5, none⟩ = some (.int .i64 (cf 5)) := cell_of_row _ _ 5 _ _ (0, 0) hkr
        have s6 : wE.cell? ⟨wD.heap.size, 6, none⟩ = some (.int .i64 (cf 6)) := cell_of_row _ _ 6 _ _ (0, 0) hkr
        have s7 : wE.cell? ⟨wD.heap.size, 7, none⟩ = some (.int .i64 (cf 7)) := cell_of_row _ _ 7 _ _ (0, 0) hkr
        have s8 : wE.cell? ⟨wD.heap.size, 8, none⟩ = some (.int .i64 (cf 8)) := cell_of_row _ _ 8 _ _ (0, 0) hkr
        have s9 : wE.cell? ⟨wD.heap.size, 9, none⟩ = some (.int .i64 (cf 9)) := cell_of_row _ _ 9 _ _ (0, 0) hkr
        have s10 : wE.cell? ⟨wD.heap.size, 10, none⟩ = some (.int .i64 (cf 10)) := cell_of_row _ _ 10 _ _ (0, 0) hkr
        have s11 : wE.cell? ⟨wD.heap.size, 11, none⟩ = some (.int .i64 (cf 11)) := cell_of_row _ _ 11 _ _ (0, 0) hkr
        have s12 : wE.cell? ⟨wD.heap.size, 12, none⟩ = some (.int .i64 (cf 12)) := cell_of_row _ _ 12 _ _ (0, 0) hkr
        have s13 : wE.cell? ⟨wD.heap.size, 13, none⟩ = some (.int .i64 (cf 13)) := cell_of_row _ _ 13 _ _ (0, 0) hkr
        have HUm := Lib.hid (fun W => HU.out m W)
        obtain ⟨v, hv⟩ : ∃ v, dueL m dl = v := ⟨_, rfl⟩
        rw [hv] at HUm d3
        have hv0 : (v != 0) = true := by simp [d3]
        clear hv
        go_wp2_with fail
        refine (HUm.out _).mono ?_
        rintro e wF ⟨rfl, bb⟩
        clear ki0 ki1 ki2 ki3 ki4 ki5 s0 s1 s2 s3 s4 s5 s6 s7 s8 s9 s10 s11 s12 s13 hkr
        replace KI := Lib.hid (KI.out.below bb)
        replace KR := Lib.hid (KR.out.below bb)
        replace B := Lib.hid (bel_trans B.out bb)
        clear bb
        by_cases m0 : m = 0
        · have mb0 : (m == 0) = true := by simp [m0]
          clear m0
          go_wp2
          go_ret
          exact ⟨rfl, B.out⟩
        have mb0 : (m == 0) = false := by simp [m0]
        by_cases mx : m = 1000000000
        · have mbx : (m == 1000000000) = true := by simp [mx]
          clear mx m0
          go_wp2
          go_ret
          exact ⟨rfl, B.out⟩
        have mbx : (m == 1000000000) = false := by simp [mx]
        have HUl := Lib.hid (fun W => HU.out (m - 1) W)
        rw [d4 (by omega)] at HUl
        clear d4 HUm HU HN
        obtain ⟨ki0, ki1, ki2, ki3, ki4, ki5⟩ := KI.out
        have hkr := KR.out
        unfold CR at hkr
        have s0 : wF.cell? ⟨wD.heap.size, 0, none⟩ = some (.int .i64 (cf 0)) := cell_of_row _ _ 0 _ _ (0, 0) hkr
        have s1 : wF.cell? ⟨wD.heap.size, 1, none⟩ = some (.int .i64 (cf 1)) := cell_of_row _ _ 1 _ _ (0, 0) hkr
        have s2 : wF.cell? ⟨wD.heap.size, 2, none⟩ = some (.int .i64 (cf 2)) := cell_of_row _ _ 2 _ _ (0, 0) hkr
        have s3 : wF.cell? ⟨wD.heap.size, 3, none⟩ = some (.int .i64 (cf 3)) := cell_of_row _ _ 3 _ _ (0, 0) hkr
        have s4 : wF.cell? ⟨wD.heap.size, 4, none⟩ = some (.int .i64 (cf 4)) := cell_of_row _ _ 4 _ _ (0, 0) hkr
        have s5 : wF.cell? ⟨wD.heap.size, 5, none⟩ = some (.int .i64 (cf 5)) := cell_of_row _ _ 5 _ _ (0, 0) hkr
        have s6 : wF.cell? ⟨wD.heap.size, 6, none⟩ = some (.int .i64 (cf 6)) := cell_of_row _ _ 6 _ _ (0, 0) hkr
        have s7 : wF.cell? ⟨wD.heap.size, 7, none⟩ = some (.int .i64 (cf 7)) := cell_of_row _ _ 7 _ _ (0, 0) hkr
        have s8 : wF.cell? ⟨wD.heap.size, 8, none⟩ = some (.int .i64 (cf 8)) := cell_of_row _ _ 8 _ _ (0, 0) hkr
        have s9 : wF.cell? ⟨wD.heap.size, 9, none⟩ = some (.int .i64 (cf 9)) := cell_of_row _ _ 9 _ _ (0, 0) hkr
        have s10 : wF.cell? ⟨wD.heap.size, 10, none⟩ = some (.int .i64 (cf 10)) := cell_of_row _ _ 10 _ _ (0, 0) hkr
        have s11 : wF.cell? ⟨wD.heap.size, 11, none⟩ = some (.int .i64 (cf 11)) := cell_of_row _ _ 11 _ _ (0, 0) hkr
        have s12 : wF.cell? ⟨wD.heap.size, 12, none⟩ = some (.int .i64 (cf 12)) := cell_of_row _ _ 12 _ _ (0, 0) hkr
        have s13 : wF.cell? ⟨wD.heap.size, 13, none⟩ = some (.int .i64 (cf 13)) := cell_of_row _ _ 13 _ _ (0, 0) hkr
        have hwr : IntKind.i64.wrap (m - 1) = m - 1 := by unfold IntKind.wrap; simp [IntKind.bits, IntKind.signed]; omega
        go_wp2_with fail
        refine (HUl.out _).mono ?_
        rintro e wG ⟨rfl, bb⟩
        clear ki0 ki1 ki2 ki3 ki4 ki5 s0 s1 s2 s3 s4 s5 s6 s7 s8 s9 s10 s11 s12 s13 hkr
        replace KI := Lib.hid (KI.out.below bb)
        replace KR := Lib.hid (KR.out.below bb)
        replace B := Lib.hid (bel_trans B.out bb)
        clear bb
        go_wp2
        go_ret
        exact ⟨rfl, B.out⟩
  · have hb4 : (fk 1 == 4) = false := by simp [h4]
    clear h4 hok HK
    go_wp2_with fail
    refine (HDf.out _).mono ?_
    rintro e wD ⟨rfl, bb⟩
    clear ki0 ki1 ki2 ki3 ki4 ki5
    replace KI := Lib.hid (KI.out.below bb)
    replace B := Lib.hid (bel_trans B.out bb)
    clear bb
    have bb := bel_alloc wD (.cells #[.int .i64 (cf 0), .int .i64 (cf 1), .int .i64 (cf 2), .int .i64 (cf 3), .int .i64 (cf 4), .int .i64 (cf 5), .int .i64 (cf 6), .int .i64 (cf 7), .int .i64 (cf 8), .int .i64 (cf 9), .int .i64 (cf 10), .int .i64 (cf 11), .int .i64 (cf 12), .int .i64 (cf 13)] 37)
    have KR := Lib.hid (CR.new cf wD)
    obtain ⟨W0, hW0⟩ : ∃ W0, wD.alloc (.cells #[.int .i64 (cf 0), .int .i64 (cf 1), .int .i64 (cf 2), .int .i64 (cf 3), .int .i64 (cf 4), .int .i64 (cf 5), .int .i64 (cf 6), .int .i64 (cf 7), .int .i64 (cf 8), .int .i64 (cf 9), .int .i64 (cf 10), .int .i64 (cf 11), .int .i64 (cf 12), .int .i64 (cf 13)] 37) = W0 := ⟨_, rfl⟩
    rw [hW0] at bb KR
    replace KI := Lib.hid (KI.out.below bb)
    replace B := Lib.hid (bel_trans B.out bb)
    clear bb
    obtain ⟨ki0, ki1, ki2, ki3, ki4, ki5⟩ := KI.out
    have hkr := KR.out
    unfold CR at hkr
    have s0 : W0.cell? ⟨wD.heap.size, 0, none⟩ = some (.int .i64 (cf 0)) := cell_of_row _ _ 0 _ _ (0, 0) hkr
    have s1 : W0.cell? ⟨wD.heap.size, 1, none⟩ = some (.int .i64 (cf 1)) := cell_of_row _ _ 1 _ _ (0, 0) hkr
    have s2 : W0.cell? ⟨wD.heap.size, 2, none⟩ = some (.int .i64 (cf 2)) := cell_of_row _ _ 2 _ _ (0, 0) hkr
    have s3 : W0.cell? ⟨wD.heap.size, 3, none⟩ = some (.int .i64 (cf 3)) := cell_of_row _ _ 3 _ _ (0, 0) hkr
    have s4 : W0.cell? ⟨wD.heap.size, 4, none⟩ = some (.int .i64 (cf 4)) := cell_of_row _ _ 4 _ _ (0, 0) hkr
    have s5 : W0.cell? ⟨wD.heap.size, 5, none⟩ = some (.int .i64 (cf 5)) := cell_of_row _ _ 5 _ _ (0, 0) hkr
    have s6 : W0.cell? ⟨wD.heap.size, 6, none⟩ = some (.int .i64 (cf 6)) := cell_of_row _ _ 6 _ _ (0, 0) hkr
    have s7 : W0.cell? ⟨wD.heap.size, 7, none⟩ = some (.int .i64 (cf 7)) := cell_of_row _ _ 7 _ _ (0, 0) hkr
    have s8 : W0.cell? ⟨wD.heap.size, 8, none⟩ = some (.int .i64 (cf 8)) := cell_of_row _ _ 8 _ _ (0, 0) hkr
    have s9 : W0.cell? ⟨wD.heap.size, 9, none⟩ = some (.int .i64 (cf 9)) := cell_of_row _ _ 9 _ _ (0, 0) hkr
    have s10 : W0.cell? ⟨wD.heap.size, 10, none⟩ = some (.int .i64 (cf 10)) := cell_of_row _ _ 10 _ _ (0, 0) hkr
    have s11 : W0.cell? ⟨wD.heap.size, 11, none⟩ = some (.int .i64 (cf 11)) := cell_of_row _ _ 11 _ _ (0, 0) hkr
    have s12 : W0.cell? ⟨wD.heap.size, 12, none⟩ = some (.int .i64 (cf 12)) := cell_of_row _ _ 12 _ _ (0, 0) hkr
    have s13 : W0.cell? ⟨wD.heap.size, 13, none⟩ = some (.int .i64 (cf 13)) := cell_of_row _ _ 13 _ _ (0, 0) hkr
    go_wp2_with fail
    refine (HN.out _).mono ?_
    rintro e wE ⟨rfl, bb⟩
    clear ki0 ki1 ki2 ki3 ki4 ki5 s0 s1 s2 s3 s4 s5 s6 s7 s8 s9 s10 s11 s12 s13 hkr
    replace KI := Lib.hid (KI.out.below bb)
    replace KR := Lib.hid (KR.out.below bb)
    replace B := Lib.hid (bel_trans B.out bb)
    clear bb
    obtain ⟨ki0, ki1, ki2, ki3, ki4, ki5⟩ := KI.out
    have hkr := KR.out
    unfold CR at hkr
    rcases HD.out with ⟨d1, d2, d3⟩ | ⟨d1, d2, d3, d4⟩
    · clear HD
      have e1 : (fk 1 != 1) = true := by simp [d2]
      have e3 : (fk 1 != 3) = true := by simp [d3]
      clear d2 d3
      go_wp2
      go_ret
      exact ⟨rfl, B.out⟩
    clear HD
    have dn : ¬ m < 0 := by omega
    have s0 : wE.cell? ⟨wD.heap.size, 0, none⟩ = some (.int .i64 (cf 0)) := cell_of_row _ _ 0 _ _ (0, 0) hkr
    have s1 : wE.cell? ⟨wD.heap.size, 1, none⟩ = some (.int .i64 (cf 1)) := cell_of_row _ _ 1 _ _ (0, 0) hkr
    have s2 : wE.cell? ⟨wD.heap.size, 2, none⟩ = some (.int .i64 (cf 2)) := cell_of_row _ _ 2 _ _ (0, 0) hkr
    have s3 : wE.cell? ⟨wD.heap.size, 3, none⟩ = some (.int .i64 (cf 3)) := cell_of_row _ _ 3 _ _ (0, 0) hkr
    have s4 : wE.cell? ⟨wD.heap.size, 4, none⟩ = some (.int .i64 (cf 4)) := cell_of_row _ _ 4 _ _ (0, 0) hkr
    have s5 : wE.cell? ⟨wD.heap.size, 5, none⟩ = some (.int .i64 (cf 5)) := cell_of_row _ _ 5 _ _ (0, 0) hkr
    have s6 : wE.cell? ⟨wD.heap.size, 6, none⟩ = some (.int .i64 (cf 6)) := cell_of_row _ _ 6 _ _ (0, 0) hkr
    have s7 : wE.cell? ⟨wD.heap.size, 7, none⟩ = some (.int .i64 (cf 7)) := cell_of_row _ _ 7 _ _ (0, 0) hkr
    have s8 : wE.cell? ⟨wD.heap.size, 8, none⟩ = some (.int .i64 (cf 8)) := cell_of_row _ _ 8 _ _ (0, 0) hkr
    have s9 : wE.cell? ⟨wD.heap.size, 9, none⟩ = some (.int .i64 (cf 9)) := cell_of_row _ _ 9 _ _ (0, 0) hkr
    have s10 : wE.cell? ⟨wD.heap.size, 10, none⟩ = some (.int .i64 (cf 10)) := cell_of_row _ _ 10 _ _ (0, 0) hkr
    have s11 : wE.cell? ⟨wD.heap.size, 11, none⟩ = some (.int .i64 (cf 11)) := cell_of_row _ _ 11 _ _ (0, 0) hkr
    have s12 : wE.cell? ⟨wD.heap.size, 12, none⟩ = some (.int .i64 (cf 12)) := cell_of_row _ _ 12 _ _ (0, 0) hkr
    have s13 : wE.cell? ⟨wD.heap.size, 13, none⟩ = some (.int .i64 (cf 13)) := cell_of_row _ _ 13 _ _ (0, 0) hkr
    have HUm := Lib.hid (fun W => HU.out m W)
    obtain ⟨v, hv⟩ : ∃ v, dueL m dl = v := ⟨_, rfl⟩
    rw [hv] at HUm d3
    have hv0 : (v != 0) = true := by simp [d3]
    clear hv
    go_wp2_with fail
    refine (HUm.out _).mono ?_
    rintro e wF ⟨rfl, bb⟩
    clear ki0 ki1 ki2 ki3 ki4 ki5 s0 s1 s2 s3 s4 s5 s6 s7 s8 s9 s10 s11 s12 s13 hkr
    replace KI := Lib.hid (KI.out.below bb)
    replace KR := Lib.hid (KR.out.below bb)
    replace B := Lib.hid (bel_trans B.out bb)
    clear bb
    by_cases m0 : m = 0
    · have mb0 : (m == 0) = true := by simp [m0]
      clear m0
      go_wp2
      go_ret
      exact ⟨rfl, B.out⟩
    have mb0 : (m == 0) = false := by simp [m0]
    by_cases mx : m = 1000000000
    · have mbx : (m == 1000000000) = true := by simp [mx]
      clear mx m0
      go_wp2
      go_ret
      exact ⟨rfl, B.out⟩
    have mbx : (m == 1000000000) = false := by simp [mx]
    have HUl := Lib.hid (fun W => HU.out (m - 1) W)
    rw [d4 (by omega)] at HUl
    clear d4 HUm HU HN
    obtain ⟨ki0, ki1, ki2, ki3, ki4, ki5⟩ := KI.out
    have hkr := KR.out
    unfold CR at hkr
    have s0 : wF.cell? ⟨wD.heap.size, 0, none⟩ = some (.int .i64 (cf 0)) := cell_of_row _ _ 0 _ _ (0, 0) hkr
    have s1 : wF.cell? ⟨wD.heap.size, 1, none⟩ = some (.int .i64 (cf 1)) := cell_of_row _ _ 1 _ _ (0, 0) hkr
    have s2 : wF.cell? ⟨wD.heap.size, 2, none⟩ = some (.int .i64 (cf 2)) := cell_of_row _ _ 2 _ _ (0, 0) hkr
    have s3 : wF.cell? ⟨wD.heap.size, 3, none⟩ = some (.int .i64 (cf 3)) := cell_of_row _ _ 3 _ _ (0, 0) hkr
    have s4 : wF.cell? ⟨wD.heap.size, 4, none⟩ = some (.int .i64 (cf 4)) := cell_of_row _ _ 4 _ _ (0, 0) hkr
    have s5 : wF.cell? ⟨wD.heap.size, 5, none⟩ = some (.int .i64 (cf 5)) := cell_of_row _ _ 5 _ _ (0, 0) hkr
    have s6 : wF.cell? ⟨wD.heap.size, 6, none⟩ = some (.int .i64 (cf 6)) := cell_of_row _ _ 6 _ _ (0, 0) hkr
    have s7 : wF.cell? ⟨wD.heap.size, 7, none⟩ = some (.int .i64 (cf 7)) := cell_of_row _ _ 7 _ _ (0, 0) hkr
    have s8 : wF.cell? ⟨wD.heap.size, 8, none⟩ = some (.int .i64 (cf 8)) := cell_of_row _ _ 8 _ _ (0, 0) hkr
    have s9 : wF.cell? ⟨wD.heap.size, 9, none⟩ = some (.int .i64 (cf 9)) := cell_of_row _ _ 9 _ _ (0, 0) hkr
    have s10 : wF.cell? ⟨wD.heap.size, 10, none⟩ = some (.int .i64 (cf 10)) := cell_of_row _ _ 10 _ _ (0, 0) hkr
    have s11 : wF.cell? ⟨wD.heap.size, 11, none⟩ = some (.int .i64 (cf 11)) := cell_of_row _ _ 11 _ _ (0, 0) hkr
    have s12 : wF.cell? ⟨wD.heap.size, 12, none⟩ = some (.int .i64 (cf 12)) := cell_of_row _ _ 12 _ _ (0, 0) hkr
    have s13 : wF.cell? ⟨wD.heap.size, 13, none⟩ = some (.int .i64 (cf 13)) := cell_of_row _ _ 13 _ _ (0, 0) hkr
    have hwr : IntKind.i64.wrap (m - 1) = m - 1 := by unfold IntKind.wrap; simp [IntKind.bits, IntKind.signed]; omega
    go_wp2_with fail
    refine (HUl.out _).mono ?_
    rintro e wG ⟨rfl, bb⟩
    clear ki0 ki1 ki2 ki3 ki4 ki5 s0 s1 s2 s3 s4 s5 s6 s7 s8 s9 s10 s11 s12 s13 hkr
    replace KI := Lib.hid (KI.out.below bb)
    replace KR := Lib.hid (KR.out.below bb)
    replace B := Lib.hid (bel_trans B.out bb)
    clear bb
    go_wp2
    go_ret
    exact ⟨rfl, B.out⟩

end Go.Proofs.YtbmfleakldhabaaDoor.Kn
