/- PoolSafe, the program's. -/
import Derived.Test.YtehdbdolhkflcaaPw1
import Derived.Test.YtehdbdolhkflcaaPm3
namespace Go.Proofs.Ytehdbdolhkflcaa.Po
open Go.RowKit Go.Deep Base Ln

theorem csB_drop (nc bf : Int) (cs : List Cn) (k : Nat) (h : k < cs.length) {x : Cn} (hx : cs.getD k zCn = x) : csB nc bf (cs.drop k) = (conB nc bf x && csB nc (x.1 0) (cs.drop (k + 1))) := by
  have e : cs[k] = x := by rw [← hx]; simp [List.getD_eq_getElem?_getD, h]
  rw [List.drop_eq_getElem_cons h, e]
  rfl

set_option maxRecDepth 100000 in
set_option maxHeartbeats 4000000 in
theorem connsSafe_any (a : PA) (p : Pl) (R : RP) (w : World) (hn : p.cs.length ≤ 1048576) (h : CnV w R.c R.c' a.C p.cs) (hR : R.c' ≤ w.heap.size) :
    Calls Try.prog 56 #[.agg #[.int .i64 (p.c 0), .int .i64 (p.c 1), .int .i64 (p.c 2), .int .i64 (p.c 3), .int .i64 (p.c 4), .int .i64 (p.c 5), .int .i64 (p.c 6), .int .i64 (p.c 7), .int .i64 (p.c 8), .int .i64 (p.c 9), .int .i64 (p.c 10), .int .i64 (p.c 11), .int .i64 (p.c 12), .int .i64 (p.c 13), .int .i64 p.now, .int .i64 p.mode, .int .i64 p.nc, .int .i64 p.nt, .slice a.C p.cs.length a.cc, .slice a.A p.x.s.ss.length a.ca, .int .i64 p.x.s.f, .int .i64 p.x.s.l, .int .i64 p.x.s.r, .int .i64 p.x.s.c, .slice a.B p.x.ds.length a.cb, .int .i64 p.x.q, .int .i64 p.b.state, .slice a.F p.b.fails.length a.fc, .int .i64 p.b.till, .int .i64 p.fails, .int .i64 p.redial, .int .i64 p.drain]] w fun e w' => e = .returned (.bool (connsB p)) ∧ Below w.heap.size w w' := by
  have H := Lib.hid h
  clear h
  by_cases h12 : 12 < p.cs.length
  · have Hr : Hid (connsB p = false) := by show _ = _; unfold connsB; rw [decide_eq_false (by omega)]; rfl
    go_enter Try.func56, Try.ntmps56
    go_wp2
    go_ret
    exact ⟨by rw [Hr.out]; rfl, bel_alloc _ _⟩
  have Hr : Hid (connsB p = csB p.nc 0 (p.cs.drop 0)) := by show _ = _; unfold connsB; rw [decide_eq_true (by omega)]; rfl
  go_enter Try.func56, Try.ntmps56
  go_wp2
  go_loopw [13, 3] (fun i t wr => ∃ (k : Nat) (bf : Int), k ≤ p.cs.length ∧ i = .int .i64 k ∧ t = .int .i64 bf ∧ connsB p = csB p.nc bf (p.cs.drop k) ∧ Bx wr w.heap.size 38 #[.int .i64 (p.c 0), .int .i64 (p.c 1), .int .i64 (p.c 2), .int .i64 (p.c 3), .int .i64 (p.c 4), .int .i64 (p.c 5), .int .i64 (p.c 6), .int .i64 (p.c 7), .int .i64 (p.c 8), .int .i64 (p.c 9), .int .i64 (p.c 10), .int .i64 (p.c 11), .int .i64 (p.c 12), .int .i64 (p.c 13), .int .i64 p.now, .int .i64 p.mode, .int .i64 p.nc, .int .i64 p.nt, .slice a.C p.cs.length a.cc, .slice a.A p.x.s.ss.length a.ca, .int .i64 p.x.s.f, .int .i64 p.x.s.l, .int .i64 p.x.s.r, .int .i64 p.x.s.c, .slice a.B p.x.ds.length a.cb, .int .i64 p.x.q, .int .i64 p.b.state, .slice a.F p.b.fails.length a.fc, .int .i64 p.b.till, .int .i64 p.fails, .int .i64 p.redial, .int .i64 p.drain] ∧ Below w.heap.size w wr) (fun i _ _ => p.cs.length - (intOf i).toNat)
  case atStart => exact ⟨0, 0, Nat.zero_le _, rfl, rfl, Hr.out, Bx.new _ _ _, bel_alloc _ _⟩
  case round =>
    obtain ⟨k, bf, hk, rfl, rfl, he, hB, hr⟩ := hrel
    clear Hr
    have HB := Lib.hid hB
    have HW := Lib.hid hr
    clear hB
    by_cases hlt : k < p.cs.length
    · obtain ⟨g, hg, _, hg2, hc⟩ := (H.out.below hr hR) (by omega)
      obtain ⟨c0, c1, c2, c3, c4, c5⟩ := (hc k hlt).1.six
      clear hc
      obtain ⟨x, hx⟩ : ∃ x, p.cs.getD k zCn = x := ⟨_, rfl⟩
      rw [hx] at c0 c1 c2 c3 c4 c5
      have He := Lib.hid (he.trans (csB_drop p.nc bf p.cs k hlt hx))
      clear hx he
      obtain ⟨x, xt⟩ := x
      dsimp only at c0 c1 c2 c3 c4 c5
      rw [hg]
      go_wp2_with fail
      obtain ⟨w1, hw1⟩ : ∃ w1, wr.alloc (.cells #[.int .i64 (x 0), .int .i64 (x 1), .int .i64 (x 2), .int .i64 (x 3), .int .i64 (x 4), .bool xt] 76) = w1 := ⟨_, rfl⟩
      have Q : Hid (Bx w1 wr.heap.size 76 #[.int .i64 (x 0), .int .i64 (x 1), .int .i64 (x 2), .int .i64 (x 3), .int .i64 (x 4), .bool xt]) := by rw [← hw1]; exact Bx.new wr _ _
      have b1 : Below wr.heap.size wr w1 := by rw [← hw1]; exact bel_alloc _ _
      rw [hw1]
      clear hw1 c0 c1 c2 c3 c4 c5
      refine (Kn.implConnOk_any x xt w1).mono ?_
      rintro e w2 ⟨rfl, b2⟩
      replace Q := Lib.hid (Q.out.below b2)
      replace HB := Lib.hid (HB.out.below (bel_trans b1 b2))
      replace HW := Lib.hid (bel_trans HW.out (bel_trans b1 b2))
      clear b1 b2 hr
      have d0 := Q.out.cell 0
      have d1 := Q.out.cell 1
      have n3 := HB.out.cell 16
      clear Q
      simp only [conB] at He
      cases hok : Kn.okN x xt
      · have Ho : Hid (connsB p = false) := by show _ = _; rw [He.out, hok]; rfl
        clear hok He
        go_wp2
        go_ret
        exact ⟨by rw [Ho.out]; rfl, HW.out⟩
      by_cases h4 : x 1 = 4
      · have Ho : Hid (connsB p = false) := by show _ = _; rw [He.out, hok, h4]; rfl
        have h4' : (x 1 == 4) = true := by simpa using h4
        clear hok He h4
        go_wp2
        go_ret
        exact ⟨by rw [Ho.out]; rfl, HW.out⟩
      have h4' : (x 1 == 4) = false := by simpa using h4
      clear h4
      by_cases hbf : x 0 ≤ bf
      · have Ho : Hid (connsB p = false) := by show _ = _; rw [He.out, hok, h4', decide_eq_false (p := bf < x 0) (by omega)]; rfl
        clear hok He
        go_wp2
        go_ret
        exact ⟨by rw [Ho.out]; rfl, HW.out⟩
      by_cases hnc : p.nc ≤ x 0
      · have Ho : Hid (connsB p = false) := by show _ = _; rw [He.out, hok, h4', decide_eq_true (p := bf < x 0) (by omega), decide_eq_false (p := x 0 < p.nc) (by omega)]; rfl
        clear hok He
        go_wp2
        go_ret
        exact ⟨by rw [Ho.out]; rfl, HW.out⟩
      have Ho : Hid (connsB p = csB p.nc (x 0) (p.cs.drop (k + 1))) := by show _ = _; rw [He.out, hok, h4', decide_eq_true (p := bf < x 0) (by omega), decide_eq_true (p := x 0 < p.nc) (by omega)]; rfl
      clear hok He
      go_wp2
      go_roundw
      case rel => exact ⟨k + 1, x 0, by omega, by go_num, rfl, Ho.out, (by have := HB.out; rw [hg] at this; exact this), HW.out⟩
      case measure => simp [intOf]; omega
    · obtain rfl : k = p.cs.length := by omega
      have Ho : Hid (connsB p = true) := by show _ = _; rw [he, List.drop_length]; rfl
      clear he
      go_wp2
      go_ret
      exact ⟨by rw [Ho.out]; rfl, hr⟩

theorem hold_num {cs : List Cn} {k : Nat} (h : k < cs.length) {x : Cn} (hx : cs.getD k zCn = x) : setOf (hold (cs.take (k + 1))) = if x.1 1 = 3 then put1 (setOf (hold (cs.take k))) (x.1 4) else setOf (hold (cs.take k)) := by
  rw [hold_take_succ cs k h, hx]
  split
  · unfold setOf; rw [List.foldl_append]; rfl
  · rw [List.append_nil]
theorem set_le (ts : List Int) : (setOf ts).length ≤ ts.length := by
  have := (fold_len ts [] List.nodup_nil).1
  simpa [setOf] using this
theorem waitB_drop (nt : Int) (S ts : List Int) (k : Nat) (h : k < ts.length) {t : Int} (ht : ts.getD k 0 = t) : waitB nt S (ts.drop k) = (decide (t < nt) && !decide (t ∈ S) && waitB nt S (ts.drop (k + 1))) := by
  have e : ts[k] = t := by rw [← ht]; simp [List.getD_eq_getElem?_getD, h]
  unfold waitB
  rw [List.drop_eq_getElem_cons h, e]
  rfl

set_option maxRecDepth 100000 in
set_option maxHeartbeats 4000000 in
theorem ticketsSafe_any (a : PA) (p : Pl) (R : RP) (w : World) (hn : Few p 1048576) (h : PM w R a p) (hR : R.In 0 w.heap.size) :
    Calls Try.prog 57 #[.agg #[.int .i64 (p.c 0), .int .i64 (p.c 1), .int .i64 (p.c 2), .int .i64 (p.c 3), .int .i64 (p.c 4), .int .i64 (p.c 5), .int .i64 (p.c 6), .int .i64 (p.c 7), .int .i64 (p.c 8), .int .i64 (p.c 9), .int .i64 (p.c 10), .int .i64 (p.c 11), .int .i64 (p.c 12), .int .i64 (p.c 13), .int .i64 p.now, .int .i64 p.mode, .int .i64 p.nc, .int .i64 p.nt, .slice a.C p.cs.length a.cc, .slice a.A p.x.s.ss.length a.ca, .int .i64 p.x.s.f, .int .i64 p.x.s.l, .int .i64 p.x.s.r, .int .i64 p.x.s.c, .slice a.B p.x.ds.length a.cb, .int .i64 p.x.q, .int .i64 p.b.state, .slice a.F p.b.fails.length a.fc, .int .i64 p.b.till, .int .i64 p.fails, .int .i64 p.redial, .int .i64 p.drain]] w fun e w' => e = .returned (.bool (tkB p)) ∧ Below w.heap.size w w' := by
  have H := Lib.hid h
  have HR := Lib.hid hR
  have Hn := Lib.hid hn
  clear h hR hn
  have ht : Hid (tkB p = (waitB p.nt (setOf (hold p.cs)) (llA p.x) && ((setOf (hold p.cs)).length == cnt p.cs 3))) := Lib.hid rfl
  have hcs := Hn.out.cs
  have hmm := @run_makeMap Try.prog
  go_enter Try.func57, Try.ntmps57
  go_wp2
  clear hmm
  go_loopw [12] (fun i wr => ∃ k : Nat, k ≤ p.cs.length ∧ i = .int .i64 k ∧ Im wr (w.heap.size + 1) (setOf (hold (p.cs.take k))) ∧ Bx wr w.heap.size 38 #[.int .i64 (p.c 0), .int .i64 (p.c 1), .int .i64 (p.c 2), .int .i64 (p.c 3), .int .i64 (p.c 4), .int .i64 (p.c 5), .int .i64 (p.c 6), .int .i64 (p.c 7), .int .i64 (p.c 8), .int .i64 (p.c 9), .int .i64 (p.c 10), .int .i64 (p.c 11), .int .i64 (p.c 12), .int .i64 (p.c 13), .int .i64 p.now, .int .i64 p.mode, .int .i64 p.nc, .int .i64 p.nt, .slice a.C p.cs.length a.cc, .slice a.A p.x.s.ss.length a.ca, .int .i64 p.x.s.f, .int .i64 p.x.s.l, .int .i64 p.x.s.r, .int .i64 p.x.s.c, .slice a.B p.x.ds.length a.cb, .int .i64 p.x.q, .int .i64 p.b.state, .slice a.F p.b.fails.length a.fc, .int .i64 p.b.till, .int .i64 p.fails, .int .i64 p.redial, .int .i64 p.drain] ∧ Below w.heap.size w wr) (fun i _ => p.cs.length - (intOf i).toNat)
  case atStart =>
    refine ⟨0, Nat.zero_le _, rfl, ?_, (Bx.new w _ _).alloc _, bel_trans (bel_alloc w _) (bel_alloc _ _)⟩
    refine Im.zero (c := 0) ?_
    have := heap_alloc_new (w.alloc (.cells #[.int .i64 (p.c 0), .int .i64 (p.c 1), .int .i64 (p.c 2), .int .i64 (p.c 3), .int .i64 (p.c 4), .int .i64 (p.c 5), .int .i64 (p.c 6), .int .i64 (p.c 7), .int .i64 (p.c 8), .int .i64 (p.c 9), .int .i64 (p.c 10), .int .i64 (p.c 11), .int .i64 (p.c 12), .int .i64 (p.c 13), .int .i64 p.now, .int .i64 p.mode, .int .i64 p.nc, .int .i64 p.nt, .slice a.C p.cs.length a.cc, .slice a.A p.x.s.ss.length a.ca, .int .i64 p.x.s.f, .int .i64 p.x.s.l, .int .i64 p.x.s.r, .int .i64 p.x.s.c, .slice a.B p.x.ds.length a.cb, .int .i64 p.x.q, .int .i64 p.b.state, .slice a.F p.b.fails.length a.fc, .int .i64 p.b.till, .int .i64 p.fails, .int .i64 p.redial, .int .i64 p.drain] 38)) (.map #[] 0)
    simpa using this
  case round =>
    obtain ⟨k, hk, rfl, hM, hB, hr⟩ := hrel
    have HB := Lib.hid hB
    have HW := Lib.hid hr
    have HM := Lib.hid hM
    clear hB hM
    by_cases hlt : k < p.cs.length
    · obtain ⟨g, hg, _, hg2, hc⟩ := (H.out.cs.below hr HR.out.c') (by omega)
      obtain ⟨c0, c1, c2, c3, c4, c5⟩ := (hc k hlt).1.six
      clear hc
      obtain ⟨x, hx⟩ : ∃ x, p.cs.getD k zCn = x := ⟨_, rfl⟩
      rw [hx] at c0 c1 c2 c3 c4 c5
      have He := Lib.hid (hold_num hlt hx)
      clear hx
      obtain ⟨x, xt⟩ := x
      dsimp only at c0 c1 c2 c3 c4 c5
      rw [hg]
      obtain ⟨w1, hw1⟩ : ∃ w1, wr.alloc (.cells #[.int .i64 (x 0), .int .i64 (x 1), .int .i64 (x 2), .int .i64 (x 3), .int .i64 (x 4), .bool xt] 76) = w1 := ⟨_, rfl⟩
      have b1 : Below wr.heap.size wr w1 := by rw [← hw1]; exact bel_alloc _ _
      have Q : Hid (Bx w1 wr.heap.size 76 #[.int .i64 (x 0), .int .i64 (x 1), .int .i64 (x 2), .int .i64 (x 3), .int .i64 (x 4), .bool xt]) := by rw [← hw1]; exact Bx.new wr _ _
      have HM1 : Hid (Im w1 (w.heap.size + 1) (setOf (hold (p.cs.take k)))) := HM.out.of_block (b1.block _ HM.out.lt)
      have HB1 := Lib.hid (HB.out.below b1)
      have HW1 := Lib.hid (bel_trans HW.out b1)
      have d1 := Q.out.cell 1
      have d4 := Q.out.cell 4
      clear b1 Q
      by_cases h3 : x 1 = 3
      · have h3' : (x 1 == 3) = true := by simpa using h3
        have He' := He.out
        rw [if_pos (show (x, xt).1 1 = 3 from h3)] at He'
        by_cases hm : x 4 ∈ setOf (hold (p.cs.take k))
        · obtain ⟨o, hup, hM2⟩ := put_again HM1.out hm
          have He2 : Hid (setOf (hold (p.cs.take (k + 1))) = setOf (hold (p.cs.take k))) := by show _ = _; rw [He']; exact if_pos hm
          have HM2 := Lib.hid hM2
          have HB2 : Hid (Bx (w1.putObj (w.heap.size + 1) o) w.heap.size 38 #[.int .i64 (p.c 0), .int .i64 (p.c 1), .int .i64 (p.c 2), .int .i64 (p.c 3), .int .i64 (p.c 4), .int .i64 (p.c 5), .int .i64 (p.c 6), .int .i64 (p.c 7), .int .i64 (p.c 8), .int .i64 (p.c 9), .int .i64 (p.c 10), .int .i64 (p.c 11), .int .i64 (p.c 12), .int .i64 (p.c 13), .int .i64 p.now, .int .i64 p.mode, .int .i64 p.nc, .int .i64 p.nt, .slice a.C p.cs.length a.cc, .slice a.A p.x.s.ss.length a.ca, .int .i64 p.x.s.f, .int .i64 p.x.s.l, .int .i64 p.x.s.r, .int .i64 p.x.s.c, .slice a.B p.x.ds.length a.cb, .int .i64 p.x.q, .int .i64 p.b.state, .slice a.F p.b.fails.length a.fc, .int .i64 p.b.till, .int .i64 p.fails, .int .i64 p.redial, .int .i64 p.drain]) := HB1.out.of_block (World.putObj_heap_other (by omega))
          have HW2 := Lib.hid (put_below o HW1.out (Nat.le_succ _))
          clear hM2 He' h3
          go_wp2
          go_roundw
          case rel => exact ⟨k + 1, by omega, by go_num, by rw [He2.out]; exact HM2.out, (by have := HB2.out; rw [hg] at this; exact this), HW2.out⟩
          case measure => simp [intOf]; omega
        · obtain ⟨o, hup, hM2⟩ := put_new HM1.out hm
          have He2 : Hid (setOf (hold (p.cs.take (k + 1))) = setOf (hold (p.cs.take k)) ++ [x 4]) := by show _ = _; rw [He']; exact if_neg hm
          have HM2 := Lib.hid hM2
          have HB2 : Hid (Bx (w1.putObj (w.heap.size + 1) o) w.heap.size 38 #[.int .i64 (p.c 0), .int .i64 (p.c 1), .int .i64 (p.c 2), .int .i64 (p.c 3), .int .i64 (p.c 4), .int .i64 (p.c 5), .int .i64 (p.c 6), .int .i64 (p.c 7), .int .i64 (p.c 8), .int .i64 (p.c 9), .int .i64 (p.c 10), .int .i64 (p.c 11), .int .i64 (p.c 12), .int .i64 (p.c 13), .int .i64 p.now, .int .i64 p.mode, .int .i64 p.nc, .int .i64 p.nt, .slice a.C p.cs.length a.cc, .slice a.A p.x.s.ss.length a.ca, .int .i64 p.x.s.f, .int .i64 p.x.s.l, .int .i64 p.x.s.r, .int .i64 p.x.s.c, .slice a.B p.x.ds.length a.cb, .int .i64 p.x.q, .int .i64 p.b.state, .slice a.F p.b.fails.length a.fc, .int .i64 p.b.till, .int .i64 p.fails, .int .i64 p.redial, .int .i64 p.drain]) := HB1.out.of_block (World.putObj_heap_other (by omega))
          have HW2 := Lib.hid (put_below o HW1.out (Nat.le_succ _))
          clear hM2 He' h3
          go_wp2
          go_roundw
          case rel => exact ⟨k + 1, by omega, by go_num, by rw [He2.out]; exact HM2.out, (by have := HB2.out; rw [hg] at this; exact this), HW2.out⟩
          case measure => simp [intOf]; omega
      · have h3' : (x 1 == 3) = false := by simpa using h3
        have He2 : Hid (setOf (hold (p.cs.take (k + 1))) = setOf (hold (p.cs.take k))) := by show _ = _; rw [He.out]; exact if_neg h3
        clear h3
        go_wp2
        go_roundw
        case rel => exact ⟨k + 1, by omega, by go_num, by rw [He2.out]; exact HM1.out, (by have := HB1.out; rw [hg] at this; exact this), HW1.out⟩
        case measure => simp [intOf]; omega
    · obtain rfl : k = p.cs.length := by omega
      rw [List.take_length] at HM
      clear hlt hk hr
      have HX := Lib.hid H.out.x
      go_upto_region 8 with fail
      obtain ⟨q19, q20, q21, q22, q23, q24, q25⟩ : wr.cell? ⟨w.heap.size, 19, none⟩ = some (.slice a.A p.x.s.ss.length a.ca) ∧ wr.cell? ⟨w.heap.size, 20, none⟩ = some (.int .i64 p.x.s.f) ∧ wr.cell? ⟨w.heap.size, 21, none⟩ = some (.int .i64 p.x.s.l) ∧ wr.cell? ⟨w.heap.size, 22, none⟩ = some (.int .i64 p.x.s.r) ∧ wr.cell? ⟨w.heap.size, 23, none⟩ = some (.int .i64 p.x.s.c) ∧ wr.cell? ⟨w.heap.size, 24, none⟩ = some (.slice a.B p.x.ds.length a.cb) ∧ wr.cell? ⟨w.heap.size, 25, none⟩ = some (.int .i64 p.x.q) := ⟨HB.out.cell 19, HB.out.cell 20, HB.out.cell 21, HB.out.cell 22, HB.out.cell 23, HB.out.cell 24, HB.out.cell 25⟩
      go_wp2_with fail
      refine (implList_any a.A a.ca p.x a.B a.cb R.L wr Hn.out.s Hn.out.h (HX.out.below HW.out HR.out.L) (HR.out.L.wide (Nat.le_refl _) HW.out.size)).mono ?_
      rintro e w2 ⟨G, cg, rfl, v2, b2⟩
      clear q19 q20 q21 q22 q23 q24 q25
      have HV := Lib.hid v2
      have HB2 := Lib.hid (HB.out.below b2)
      have HM2 : Hid (Im w2 (w.heap.size + 1) (setOf (hold p.cs))) := HM.out.of_block (b2.block _ HM.out.lt)
      have HW2 := Lib.hid (bel_trans HW.out b2)
      have hl60 := ll_few p.x
      clear v2 b2 HM HB
      obtain ⟨ts, hts⟩ : ∃ ts, llA p.x = ts := ⟨_, rfl⟩
      rw [hts] at hl60 HV ht ⊢
      clear hts
      have ht0 : Hid (tkB p = (waitB p.nt (setOf (hold p.cs)) (ts.drop 0) && ((setOf (hold p.cs)).length == cnt p.cs 3))) := ht
      clear ht
      obtain ⟨S, hS⟩ : ∃ S, setOf (hold p.cs) = S := ⟨_, rfl⟩
      have hSl : S.length ≤ 1048576 := by rw [← hS]; exact Nat.le_trans (set_le _) (by rw [hold_len]; exact Nat.le_trans (cnt_le _ _) hcs)
      rw [hS] at HM2 ht0
      clear hS
      have zw := HW2.out.size
      have zm := HM2.out.lt
      go_wp2
      go_loopw [27] (fun i wz => ∃ k : Nat, k ≤ ts.length ∧ i = .int .i64 k ∧ tkB p = (waitB p.nt S (ts.drop k) && (S.length == cnt p.cs 3)) ∧ wz = w2) (fun i _ => ts.length - (intOf i).toNat)
      case atStart => exact ⟨0, Nat.zero_le _, rfl, ht0.out, rfl⟩
      case round =>
        obtain ⟨j, hj, rfl, he, rfl⟩ := hrel
        have n4 : wr.cell? ⟨w.heap.size, 17, none⟩ = some (.int .i64 p.nt) := HB2.out.cell 17
        by_cases hjl : j < ts.length
        · obtain ⟨gg, hgg, _, _, hri⟩ := HV.out (by omega)
          have e0 := (hri j hjl).1
          obtain ⟨t, htt⟩ : ∃ t, ts.getD j 0 = t := ⟨_, rfl⟩
          rw [htt] at e0
          have He := Lib.hid (he.trans (by rw [waitB_drop p.nt S ts j hjl htt]))
          clear he htt hri
          have hlk := look_ids HM2.out t
          rw [hgg]
          by_cases hnt : p.nt ≤ t
          · have Ho : Hid (tkB p = false) := by show _ = _; rw [He.out, decide_eq_false (p := t < p.nt) (by omega)]; rfl
            clear He
            go_wp2
            go_ret
            exact ⟨by rw [Ho.out]; rfl, HW2.out⟩
          by_cases hin : t ∈ S
          · have Ho : Hid (tkB p = false) := by show _ = _; rw [He.out, decide_eq_true (p := t < p.nt) (by omega), decide_eq_true hin]; rfl
            rw [decide_eq_true hin] at hlk
            clear He
            go_wp2
            go_ret
            exact ⟨by rw [Ho.out]; rfl, HW2.out⟩
          · have Ho : Hid (tkB p = (waitB p.nt S (ts.drop (j + 1)) && (S.length == cnt p.cs 3))) := by show _ = _; rw [He.out, decide_eq_true (p := t < p.nt) (by omega), decide_eq_false hin]; rfl
            rw [decide_eq_false hin] at hlk
            clear He
            go_wp2
            go_roundw
            case rel => exact ⟨j + 1, by omega, by go_num, Ho.out, trivial⟩
            case measure => simp [intOf]; omega
        · obtain rfl : j = ts.length := by omega
          have Ho : Hid (tkB p = (S.length == cnt p.cs 3)) := by show _ = _; rw [he, List.drop_length]; rfl
          clear he
          have hln := len_ids HM2.out
          go_upto_region 14 with fail
          refine wp_region_lit ?_
          refine wpList_val rfl (v := .map (some (w.heap.size + 1))) (w' := wr) (by go_simp) ?_
          refine wpList_val rfl (v := .int .i64 (S.length : Int)) (w' := wr) (by go_simp) ?_
          refine wpList_load_mid rfl 38 (.tmp 1) rfl w.heap.size 0 rfl [.int .i64 (p.c 0), .int .i64 (p.c 1), .int .i64 (p.c 2), .int .i64 (p.c 3), .int .i64 (p.c 4), .int .i64 (p.c 5), .int .i64 (p.c 6), .int .i64 (p.c 7), .int .i64 (p.c 8), .int .i64 (p.c 9), .int .i64 (p.c 10), .int .i64 (p.c 11), .int .i64 (p.c 12), .int .i64 (p.c 13), .int .i64 p.now, .int .i64 p.mode, .int .i64 p.nc, .int .i64 p.nt, .slice a.C p.cs.length a.cc, .slice a.A p.x.s.ss.length a.ca, .int .i64 p.x.s.f, .int .i64 p.x.s.l, .int .i64 p.x.s.r, .int .i64 p.x.s.c, .slice a.B p.x.ds.length a.cb, .int .i64 p.x.q, .int .i64 p.b.state, .slice a.F p.b.fails.length a.fc, .int .i64 p.b.till, .int .i64 p.fails, .int .i64 p.redial, .int .i64 p.drain] _ (bx_range HB2.out) Try.underlying38 rfl (by kernel_rfl) ?_
          go_wp2_with fail
          refine (implCount_any a p 3 R wr hcs (H.out.cs.below HW2.out HR.out.c') (Nat.le_trans HR.out.c' HW2.out.size)).mono ?_
          rintro e w3 ⟨rfl, b3⟩
          have HW3 := Lib.hid (bel_trans HW2.out b3)
          clear hln b3
          by_cases hc : (S.length : Int) = (cnt p.cs 3 : Int)
          · have Ho2 : Hid (tkB p = true) := by show _ = _; rw [Ho.out]; simp; omega
            have hc' : ((S.length : Int) == (cnt p.cs 3 : Int)) = true := by simpa using hc
            go_wp2
            go_ret
            exact ⟨by rw [Ho2.out]; rfl, HW3.out⟩
          · have Ho2 : Hid (tkB p = false) := by show _ = _; rw [Ho.out]; simp; omega
            have hc' : ((S.length : Int) == (cnt p.cs 3 : Int)) = false := by simpa using hc
            go_wp2
            go_ret
            exact ⟨by rw [Ho2.out]; rfl, HW3.out⟩
end Go.Proofs.Ytehdbdolhkflcaa.Po
