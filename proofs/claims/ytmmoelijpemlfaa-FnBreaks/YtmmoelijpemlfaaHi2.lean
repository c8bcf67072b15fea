/- One event told to the program's breaker. -/
import Derived.Test.YtmmoelijpemlfaaHi1
import Derived.Test.YtmmoelijpemlfaaBcC
namespace Go.Proofs.Ytmmoelijpemlfaa.Bk
open Go.RowKit Go.Deep Base Rw Tick Cf

/-- A breaker and what is told come back: the breaker's failures lie in new memory, or it is the one that went in. -/
def EvEnd (w : World) (A : Option Addr) (cap : Nat) (b : Br) (r : Br × Int) (e : Ending) (w' : World) : Prop :=
  ∃ A' cap', e = .returned (.tuple #[.agg #[.int .i64 r.1.state, .slice A' r.1.fails.length cap', .int .i64 r.1.till], .int .i64 r.2]) ∧ (IV w' w.heap.size w'.heap.size A' r.1.fails ∨ (A' = A ∧ cap' = cap ∧ r.1 = b)) ∧ Below w.heap.size w w'

theorem PB.set0 {w : World} {g : Nat} {v0 v1 v2 : Value} (h : PB w g v0 v1 v2) (u : Value) : PB (w.setCell ⟨g, 0, none⟩ u) g u v1 v2 := by
  unfold PB at h ⊢
  simp [World.setCell, Array.getElem?_modify, h]
theorem PB.set2 {w : World} {g : Nat} {v0 v1 v2 : Value} (h : PB w g v0 v1 v2) (u : Value) : PB (w.setCell ⟨g, 2, none⟩ u) g v0 v1 u := by
  unfold PB at h ⊢
  simp [World.setCell, Array.getElem?_modify, h]

/-- What signalOf answers. -/
def sigV (c : Nat → Int) (kd now : Int) : Value :=
  if kd = 0 then .tuple #[.iface 75 (.agg #[.int .i64 now]), .bool true]
  else if kd = 1 then .tuple #[.iface 78 (.agg #[.int .i64 (c 0), .int .i64 (c 1), .int .i64 (c 2), .int .i64 (c 3), .int .i64 (c 4), .int .i64 (c 5), .int .i64 (c 6), .int .i64 (c 7), .int .i64 (c 8), .int .i64 (c 9), .int .i64 (c 10), .int .i64 (c 11), .int .i64 (c 12), .int .i64 (c 13), .int .i64 now]), .bool true]
  else if kd = 2 then .tuple #[.iface 80 (.agg #[]), .bool true]
  else .tuple #[.nilIface, .bool false]

set_option maxRecDepth 100000 in
set_option maxHeartbeats 1000000 in
theorem signalOf_any (c : Nat → Int) (kd now : Int) (w : World) :
    Calls Try.prog 80 #[.agg #[.int .i64 (c 0), .int .i64 (c 1), .int .i64 (c 2), .int .i64 (c 3), .int .i64 (c 4), .int .i64 (c 5), .int .i64 (c 6), .int .i64 (c 7), .int .i64 (c 8), .int .i64 (c 9), .int .i64 (c 10), .int .i64 (c 11), .int .i64 (c 12), .int .i64 (c 13)], .agg #[.int .i64 kd, .int .i64 now]] w fun e w' => e = .returned (sigV c kd now) ∧ Below w.heap.size w w' := by
  by_cases h0 : kd = 0
  · subst h0
    go_enter Try.func80, Try.ntmps80
    go_wp2
    exact bodyPost_ret (v := sigV c 0 now) (by simp [results, Try.results80, go_sem, sigV]) rfl ⟨rfl, bel_two _ _ _⟩
  have e0 : (kd == 0) = false := by simpa using h0
  by_cases h1 : kd = 1
  · subst h1
    go_enter Try.func80, Try.ntmps80
    go_wp2
    exact bodyPost_ret (v := sigV c 1 now) (by simp [results, Try.results80, go_sem, sigV]) rfl ⟨rfl, bel_two _ _ _⟩
  have e1 : (kd == 1) = false := by simpa using h1
  by_cases h2 : kd = 2
  · subst h2
    go_enter Try.func80, Try.ntmps80
    go_wp2
    exact bodyPost_ret (v := sigV c 2 now) (by simp [results, Try.results80, go_sem, sigV]) rfl ⟨rfl, bel_two _ _ _⟩
  have e2 : (kd == 2) = false := by simpa using h2
  have hs : sigV c kd now = .tuple #[.nilIface, .bool false] := by unfold sigV; rw [if_neg h0, if_neg h1, if_neg h2]
  rw [hs]
  clear h0 h1 h2 hs
  go_enter Try.func80, Try.ntmps80
  go_wp2
  exact bodyPost_ret (v := .tuple #[.nilIface, .bool false]) (by simp [results, Try.results80, go_sem]) rfl ⟨rfl, bel_two _ _ _⟩

set_option maxRecDepth 100000 in
set_option maxHeartbeats 4000000 in
theorem tellEvent_any (c : Nat → Int) (A : Option Addr) (n cap : Nat) (s u kd now : Int) (zs : List Int) (w : World) (hn : zs.length = n) (hm : n ≤ 1048576) (h : Ints w A zs) :
    Calls Try.prog 68 #[.agg #[.int .i64 (c 0), .int .i64 (c 1), .int .i64 (c 2), .int .i64 (c 3), .int .i64 (c 4), .int .i64 (c 5), .int .i64 (c 6), .int .i64 (c 7), .int .i64 (c 8), .int .i64 (c 9), .int .i64 (c 10), .int .i64 (c 11), .int .i64 (c 12), .int .i64 (c 13)], .agg #[.int .i64 s, .slice A n cap, .int .i64 u], .agg #[.int .i64 kd, .int .i64 now]] w (EvEnd w A cap ⟨s, zs, u⟩ (stepR c ⟨s, zs, u⟩ (kd, now))) := by
  have Hn := Lib.hid hn
  have HI := Lib.hid h
  clear h hn
  obtain ⟨r, hr⟩ : ∃ r, stepR c ⟨s, zs, u⟩ (kd, now) = r := ⟨_, rfl⟩
  rw [hr]
  have HR := Lib.hid hr
  clear hr
  go_enter Try.func68, Try.ntmps68
  go_wp2_with fail
  obtain ⟨W1, hW1⟩ : ∃ W1, (((w.alloc (.cells #[.int .i64 (c 0), .int .i64 (c 1), .int .i64 (c 2), .int .i64 (c 3), .int .i64 (c 4), .int .i64 (c 5), .int .i64 (c 6), .int .i64 (c 7), .int .i64 (c 8), .int .i64 (c 9), .int .i64 (c 10), .int .i64 (c 11), .int .i64 (c 12), .int .i64 (c 13)] 25)).alloc (.cells #[.int .i64 s, .slice A n cap, .int .i64 u] 31)).alloc (.cells #[.int .i64 kd, .int .i64 now] 87)).alloc (.cells #[.int .i64 0, .slice none 0 0, .int .i64 0] 31) = W1 := ⟨_, rfl⟩
  have B : Hid (Below w.heap.size w W1) := by rw [← hW1]; exact bel_trans (bel_two _ _ _) (bel_two _ _ _)
  have X : Hid (PB W1 (w.heap.size + 1) (.int .i64 s) (.slice A n cap) (.int .i64 u)) := by
    rw [← hW1]
    refine PB.below (w := (w.alloc (.cells #[.int .i64 (c 0), .int .i64 (c 1), .int .i64 (c 2), .int .i64 (c 3), .int .i64 (c 4), .int .i64 (c 5), .int .i64 (c 6), .int .i64 (c 7), .int .i64 (c 8), .int .i64 (c 9), .int .i64 (c 10), .int .i64 (c 11), .int .i64 (c 12), .int .i64 (c 13)] 25)).alloc (.cells #[.int .i64 s, .slice A n cap, .int .i64 u] 31)) ?_ (bel_two _ _ _) (by simp)
    have := heap_alloc_new (w.alloc (.cells #[.int .i64 (c 0), .int .i64 (c 1), .int .i64 (c 2), .int .i64 (c 3), .int .i64 (c 4), .int .i64 (c 5), .int .i64 (c 6), .int .i64 (c 7), .int .i64 (c 8), .int .i64 (c 9), .int .i64 (c 10), .int .i64 (c 11), .int .i64 (c 12), .int .i64 (c 13)] 25)) (.cells #[.int .i64 s, .slice A n cap, .int .i64 u] 31)
    simp only [World.size_alloc] at this
    exact this
  have R : Hid (PB W1 (w.heap.size + 1 + 1 + 1) (.int .i64 0) (.slice none 0 0) (.int .i64 0)) := by
    rw [← hW1]
    have := heap_alloc_new (((w.alloc (.cells #[.int .i64 (c 0), .int .i64 (c 1), .int .i64 (c 2), .int .i64 (c 3), .int .i64 (c 4), .int .i64 (c 5), .int .i64 (c 6), .int .i64 (c 7), .int .i64 (c 8), .int .i64 (c 9), .int .i64 (c 10), .int .i64 (c 11), .int .i64 (c 12), .int .i64 (c 13)] 25)).alloc (.cells #[.int .i64 s, .slice A n cap, .int .i64 u] 31)).alloc (.cells #[.int .i64 kd, .int .i64 now] 87)) (.cells #[.int .i64 0, .slice none 0 0, .int .i64 0] 31)
    simp only [World.size_alloc] at this
    exact this
  have z1 := R.out.lt
  have sw := B.out.size
  rw [hW1]
  clear hW1
  refine (signalOf_any c kd now _).mono ?_
  rintro e w2 ⟨rfl, b2⟩
  have s12 : W1.heap.size ≤ w2.heap.size := b2.size
  replace B := Lib.hid (bel_trans B.out b2)
  replace X := Lib.hid (X.out.below b2 (by omega))
  replace R := Lib.hid (R.out.below b2 (by omega))
  clear b2
  obtain ⟨x0, x1, x2, xf⟩ := X.out.cells
  by_cases h0 : kd = 0
  · subst h0
    obtain ⟨q, hq⟩ : ∃ q, dialR ⟨s, zs, u⟩ now = q := ⟨_, rfl⟩
    have hst : r = (q.1, if q.2 = true then 1 else 0) := by rw [← HR.out, ← hq]; rfl
    have hsv : sigV c 0 now = .tuple #[.iface 75 (.agg #[.int .i64 now]), .bool true] := rfl
    rw [hsv]
    have hcon := tellDial_any A n cap s u now zs w2 Hn.out hm (HI.out.below B.out)
    rw [hq] at hcon
    have HC := Lib.hid hcon
    have HP := Lib.hid hst
    clear HR
    clear hq hst hsv hcon
    go_wp2_with fail
    refine (HC.out).mono ?_
    rintro e w3 ⟨A3, c3, rfl, v3, b3⟩
    have z3 : w2.heap.size ≤ w3.heap.size := b3.size
    replace B := Lib.hid (bel_trans B.out b3)
    replace R := Lib.hid (R.out.below b3 (by omega))
    have V := Lib.hid v3
    clear b3 v3
    obtain rfl := (HP.out)
    obtain ⟨⟨s', zs', u'⟩, bb⟩ := q
    dsimp only at V ⊢
    obtain ⟨r0, r1, r2, rf⟩ := R.out.cells
    have hlt : w.heap.size + 1 + 1 + 1 < w3.heap.size := R.out.lt
    have hne : w3.heap.size ≠ w.heap.size + 1 + 1 + 1 := by omega
    cases bb
    · go_wp2
      obtain ⟨W4, hW4⟩ : ∃ W4, ((w3.setCell ⟨w.heap.size + 1 + 1 + 1, 0, none⟩ (.int .i64 s')).setCell ⟨w.heap.size + 1 + 1 + 1, 1, none⟩ (.slice A3 zs'.length c3)).setCell ⟨w.heap.size + 1 + 1 + 1, 2, none⟩ (.int .i64 u') = W4 := ⟨_, rfl⟩
      have R4 : PB W4 (w.heap.size + 1 + 1 + 1) (.int .i64 s') (.slice A3 zs'.length c3) (.int .i64 u') := by rw [← hW4]; exact ((R.out.set0 _).set1 _).set2 _
      have B4 : Below w.heap.size w W4 := by
        rw [← hW4]
        iterate 3 refine Below.setCell ?_ (by simp <;> omega) _
        exact B.out
      have V4 : IV W4 w2.heap.size w3.heap.size A3 zs' := by
        rw [← hW4]
        iterate 3 refine iv_set ?_ (by simp <;> omega) _
        exact V.out
      have z4 : w3.heap.size = W4.heap.size := by rw [← hW4]; simp [World.setCell]
      rw [hW4]
      clear hW4 r0 r1 r2 rf
      have b5 := bel_alloc W4 (.cells #[.int .i64 s', .slice A3 zs'.length c3, .int .i64 u'] 31)
      obtain ⟨r0, r1, r2, rf⟩ := (R4.below b5 R4.lt).cells
      exact bodyPost_ret (v := .tuple #[.agg #[.int .i64 s', .slice A3 zs'.length c3, .int .i64 u'], .int .i64 0]) (by simp [results, Try.results68, go_sem, r0, r1, r2]) rfl ⟨A3, c3, rfl, .inl ((V4.below b5 (by omega)).wide (by omega) (by simp; omega)), bel_trans B4 b5⟩
    · go_wp2
      obtain ⟨W4, hW4⟩ : ∃ W4, ((w3.setCell ⟨w.heap.size + 1 + 1 + 1, 0, none⟩ (.int .i64 s')).setCell ⟨w.heap.size + 1 + 1 + 1, 1, none⟩ (.slice A3 zs'.length c3)).setCell ⟨w.heap.size + 1 + 1 + 1, 2, none⟩ (.int .i64 u') = W4 := ⟨_, rfl⟩
      have R4 : PB W4 (w.heap.size + 1 + 1 + 1) (.int .i64 s') (.slice A3 zs'.length c3) (.int .i64 u') := by rw [← hW4]; exact ((R.out.set0 _).set1 _).set2 _
      have B4 : Below w.heap.size w W4 := by
        rw [← hW4]
        iterate 3 refine Below.setCell ?_ (by simp <;> omega) _
        exact B.out
      have V4 : IV W4 w2.heap.size w3.heap.size A3 zs' := by
        rw [← hW4]
        iterate 3 refine iv_set ?_ (by simp <;> omega) _
        exact V.out
      have z4 : w3.heap.size = W4.heap.size := by rw [← hW4]; simp [World.setCell]
      rw [hW4]
      clear hW4 r0 r1 r2 rf
      have b5 := bel_alloc W4 (.cells #[.int .i64 s', .slice A3 zs'.length c3, .int .i64 u'] 31)
      obtain ⟨r0, r1, r2, rf⟩ := (R4.below b5 R4.lt).cells
      exact bodyPost_ret (v := .tuple #[.agg #[.int .i64 s', .slice A3 zs'.length c3, .int .i64 u'], .int .i64 1]) (by simp [results, Try.results68, go_sem, r0, r1, r2]) rfl ⟨A3, c3, rfl, .inl ((V4.below b5 (by omega)).wide (by omega) (by simp; omega)), bel_trans B4 b5⟩
  by_cases h1 : kd = 1
  · subst h1
    obtain ⟨q, hq⟩ : ∃ q, failR c ⟨s, zs, u⟩ now = q := ⟨_, rfl⟩
    have hst : r = (q.1, if q.2 = true then 1 else 0) := by rw [← HR.out, ← hq]; rfl
    have hsv : sigV c 1 now = .tuple #[.iface 78 (.agg #[.int .i64 (c 0), .int .i64 (c 1), .int .i64 (c 2), .int .i64 (c 3), .int .i64 (c 4), .int .i64 (c 5), .int .i64 (c 6), .int .i64 (c 7), .int .i64 (c 8), .int .i64 (c 9), .int .i64 (c 10), .int .i64 (c 11), .int .i64 (c 12), .int .i64 (c 13), .int .i64 now]), .bool true] := rfl
    rw [hsv]
    have hcon := tellFail_any c A n cap s u now zs w2 Hn.out hm (HI.out.below B.out)
    rw [hq] at hcon
    have HC := Lib.hid hcon
    have HP := Lib.hid hst
    clear HR
    clear hq hst hsv hcon h0
    go_wp2_with fail
    refine (HC.out).mono ?_
    rintro e w3 ⟨A3, c3, rfl, v3, b3⟩
    have z3 : w2.heap.size ≤ w3.heap.size := b3.size
    replace B := Lib.hid (bel_trans B.out b3)
    replace R := Lib.hid (R.out.below b3 (by omega))
    have V := Lib.hid v3
    clear b3 v3
    obtain rfl := (HP.out)
    obtain ⟨⟨s', zs', u'⟩, bb⟩ := q
    dsimp only at V ⊢
    obtain ⟨r0, r1, r2, rf⟩ := R.out.cells
    have hlt : w.heap.size + 1 + 1 + 1 < w3.heap.size := R.out.lt
    have hne : w3.heap.size ≠ w.heap.size + 1 + 1 + 1 := by omega
    cases bb
    · go_wp2
      obtain ⟨W4, hW4⟩ : ∃ W4, ((w3.setCell ⟨w.heap.size + 1 + 1 + 1, 0, none⟩ (.int .i64 s')).setCell ⟨w.heap.size + 1 + 1 + 1, 1, none⟩ (.slice A3 zs'.length c3)).setCell ⟨w.heap.size + 1 + 1 + 1, 2, none⟩ (.int .i64 u') = W4 := ⟨_, rfl⟩
      have R4 : PB W4 (w.heap.size + 1 + 1 + 1) (.int .i64 s') (.slice A3 zs'.length c3) (.int .i64 u') := by rw [← hW4]; exact ((R.out.set0 _).set1 _).set2 _
      have B4 : Below w.heap.size w W4 := by
        rw [← hW4]
        iterate 3 refine Below.setCell ?_ (by simp <;> omega) _
        exact B.out
      have V4 : IV W4 w2.heap.size w3.heap.size A3 zs' := by
        rw [← hW4]
        iterate 3 refine iv_set ?_ (by simp <;> omega) _
        exact V.out
      have z4 : w3.heap.size = W4.heap.size := by rw [← hW4]; simp [World.setCell]
      rw [hW4]
      clear hW4 r0 r1 r2 rf
      have b5 := bel_alloc W4 (.cells #[.int .i64 s', .slice A3 zs'.length c3, .int .i64 u'] 31)
      obtain ⟨r0, r1, r2, rf⟩ := (R4.below b5 R4.lt).cells
      exact bodyPost_ret (v := .tuple #[.agg #[.int .i64 s', .slice A3 zs'.length c3, .int .i64 u'], .int .i64 0]) (by simp [results, Try.results68, go_sem, r0, r1, r2]) rfl ⟨A3, c3, rfl, .inl ((V4.below b5 (by omega)).wide (by omega) (by simp; omega)), bel_trans B4 b5⟩
    · go_wp2
      obtain ⟨W4, hW4⟩ : ∃ W4, ((w3.setCell ⟨w.heap.size + 1 + 1 + 1, 0, none⟩ (.int .i64 s')).setCell ⟨w.heap.size + 1 + 1 + 1, 1, none⟩ (.slice A3 zs'.length c3)).setCell ⟨w.heap.size + 1 + 1 + 1, 2, none⟩ (.int .i64 u') = W4 := ⟨_, rfl⟩
      have R4 : PB W4 (w.heap.size + 1 + 1 + 1) (.int .i64 s') (.slice A3 zs'.length c3) (.int .i64 u') := by rw [← hW4]; exact ((R.out.set0 _).set1 _).set2 _
      have B4 : Below w.heap.size w W4 := by
        rw [← hW4]
        iterate 3 refine Below.setCell ?_ (by simp <;> omega) _
        exact B.out
      have V4 : IV W4 w2.heap.size w3.heap.size A3 zs' := by
        rw [← hW4]
        iterate 3 refine iv_set ?_ (by simp <;> omega) _
        exact V.out
      have z4 : w3.heap.size = W4.heap.size := by rw [← hW4]; simp [World.setCell]
      rw [hW4]
      clear hW4 r0 r1 r2 rf
      have b5 := bel_alloc W4 (.cells #[.int .i64 s', .slice A3 zs'.length c3, .int .i64 u'] 31)
      obtain ⟨r0, r1, r2, rf⟩ := (R4.below b5 R4.lt).cells
      exact bodyPost_ret (v := .tuple #[.agg #[.int .i64 s', .slice A3 zs'.length c3, .int .i64 u'], .int .i64 1]) (by simp [results, Try.results68, go_sem, r0, r1, r2]) rfl ⟨A3, c3, rfl, .inl ((V4.below b5 (by omega)).wide (by omega) (by simp; omega)), bel_trans B4 b5⟩
  by_cases h2 : kd = 2
  · subst h2
    obtain ⟨q, hq⟩ : ∃ q, succR ⟨s, zs, u⟩ = q := ⟨_, rfl⟩
    have hst : r = (q.1, if q.2 = true then 1 else 0) := by rw [← HR.out, ← hq]; rfl
    have hsv : sigV c 2 now = .tuple #[.iface 80 (.agg #[]), .bool true] := rfl
    rw [hsv]
    have hcon := tellSucc_any A n cap s u zs w2 Hn.out hm (HI.out.below B.out)
    rw [hq] at hcon
    have HC := Lib.hid hcon
    have HP := Lib.hid hst
    clear HR
    clear hq hst hsv hcon h0 h1
    go_wp2_with fail
    refine (HC.out).mono ?_
    rintro e w3 ⟨A3, c3, rfl, v3, b3⟩
    have z3 : w2.heap.size ≤ w3.heap.size := b3.size
    replace B := Lib.hid (bel_trans B.out b3)
    replace R := Lib.hid (R.out.below b3 (by omega))
    have V := Lib.hid v3
    clear b3 v3
    obtain rfl := (HP.out)
    obtain ⟨⟨s', zs', u'⟩, bb⟩ := q
    dsimp only at V ⊢
    obtain ⟨r0, r1, r2, rf⟩ := R.out.cells
    have hlt : w.heap.size + 1 + 1 + 1 < w3.heap.size := R.out.lt
    have hne : w3.heap.size ≠ w.heap.size + 1 + 1 + 1 := by omega
    cases bb
    · go_wp2
      obtain ⟨W4, hW4⟩ : ∃ W4, ((w3.setCell ⟨w.heap.size + 1 + 1 + 1, 0, none⟩ (.int .i64 s')).setCell ⟨w.heap.size + 1 + 1 + 1, 1, none⟩ (.slice A3 zs'.length c3)).setCell ⟨w.heap.size + 1 + 1 + 1, 2, none⟩ (.int .i64 u') = W4 := ⟨_, rfl⟩
      have R4 : PB W4 (w.heap.size + 1 + 1 + 1) (.int .i64 s') (.slice A3 zs'.length c3) (.int .i64 u') := by rw [← hW4]; exact ((R.out.set0 _).set1 _).set2 _
      have B4 : Below w.heap.size w W4 := by
        rw [← hW4]
        iterate 3 refine Below.setCell ?_ (by simp <;> omega) _
        exact B.out
      have V4 : IV W4 w2.heap.size w3.heap.size A3 zs' := by
        rw [← hW4]
        iterate 3 refine iv_set ?_ (by simp <;> omega) _
        exact V.out
      have z4 : w3.heap.size = W4.heap.size := by rw [← hW4]; simp [World.setCell]
      rw [hW4]
      clear hW4 r0 r1 r2 rf
      have b5 := bel_alloc W4 (.cells #[.int .i64 s', .slice A3 zs'.length c3, .int .i64 u'] 31)
      obtain ⟨r0, r1, r2, rf⟩ := (R4.below b5 R4.lt).cells
      exact bodyPost_ret (v := .tuple #[.agg #[.int .i64 s', .slice A3 zs'.length c3, .int .i64 u'], .int .i64 0]) (by simp [results, Try.results68, go_sem, r0, r1, r2]) rfl ⟨A3, c3, rfl, .inl ((V4.below b5 (by omega)).wide (by omega) (by simp; omega)), bel_trans B4 b5⟩
    · go_wp2
      obtain ⟨W4, hW4⟩ : ∃ W4, ((w3.setCell ⟨w.heap.size + 1 + 1 + 1, 0, none⟩ (.int .i64 s')).setCell ⟨w.heap.size + 1 + 1 + 1, 1, none⟩ (.slice A3 zs'.length c3)).setCell ⟨w.heap.size + 1 + 1 + 1, 2, none⟩ (.int .i64 u') = W4 := ⟨_, rfl⟩
      have R4 : PB W4 (w.heap.size + 1 + 1 + 1) (.int .i64 s') (.slice A3 zs'.length c3) (.int .i64 u') := by rw [← hW4]; exact ((R.out.set0 _).set1 _).set2 _
      have B4 : Below w.heap.size w W4 := by
        rw [← hW4]
        iterate 3 refine Below.setCell ?_ (by simp <;> omega) _
        exact B.out
      have V4 : IV W4 w2.heap.size w3.heap.size A3 zs' := by
        rw [← hW4]
        iterate 3 refine iv_set ?_ (by simp <;> omega) _
        exact V.out
      have z4 : w3.heap.size = W4.heap.size := by rw [← hW4]; simp [World.setCell]
      rw [hW4]
      clear hW4 r0 r1 r2 rf
      have b5 := bel_alloc W4 (.cells #[.int .i64 s', .slice A3 zs'.length c3, .int .i64 u'] 31)
      obtain ⟨r0, r1, r2, rf⟩ := (R4.below b5 R4.lt).cells
      exact bodyPost_ret (v := .tuple #[.agg #[.int .i64 s', .slice A3 zs'.length c3, .int .i64 u'], .int .i64 1]) (by simp [results, Try.results68, go_sem, r0, r1, r2]) rfl ⟨A3, c3, rfl, .inl ((V4.below b5 (by omega)).wide (by omega) (by simp; omega)), bel_trans B4 b5⟩
  have hsv : sigV c kd now = .tuple #[.nilIface, .bool false] := by unfold sigV; rw [if_neg h0, if_neg h1, if_neg h2]
  obtain rfl : r = (⟨s, zs, u⟩, -1) := by rw [← HR.out]; unfold stepR; rw [if_neg h0, if_neg h1, if_neg h2]
  rw [hsv]
  clear hsv h0 h1 h2 HR
  obtain ⟨r0, r1, r2, rf⟩ := R.out.cells
  go_wp2
  refine bodyPost_ret (v := .tuple #[.agg #[.int .i64 s, .slice A n cap, .int .i64 u], .int .i64 (-1)]) (by simp [results, Try.results68, go_sem, r0, r1, r2]) rfl ⟨A, cap, by rw [Hn.out], .inr ⟨rfl, rfl, rfl⟩, ?_⟩
  iterate 3 refine Below.setCell ?_ (by simp <;> omega) _
  exact B.out
end Go.Proofs.Ytmmoelijpemlfaa.Bk
