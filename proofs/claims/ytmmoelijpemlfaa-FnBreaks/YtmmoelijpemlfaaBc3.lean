/- What the reference's BreakerOk answers. -/
import Derived.Test.YtmmoelijpemlfaaBc2
namespace Go.Proofs.Ytmmoelijpemlfaa.Bk
open Go.RowKit Go.Deep Base Rw Tick

theorem okB_false {b : Br} (h : ¬ OkB b) : okB b = false := by
  cases h' : okB b with
  | false => rfl
  | true => exact absurd (okB_iff.1 h') h

theorem up_of : ∀ {zs : List Int}, (∀ i, i + 1 < zs.length → zs.getD i 0 ≤ zs.getD (i + 1) 0) → upB zs = true := by
  intro zs
  induction zs with
  | nil => intro _; rfl
  | cons a l ih =>
    intro h
    have h2 := ih (fun i hi => by simpa using h (i + 1) (by simpa using hi))
    cases l with
    | nil => rfl
    | cons b l =>
      unfold upB
      have := h 0 (by simp)
      simp at this
      simp [this, h2]
theorem up_at {zs : List Int} (h : upB zs = true) {i : Nat} (hi : i + 1 < zs.length) : zs.getD i 0 ≤ zs.getD (i + 1) 0 := by
  have := up_dropn h i
  rw [up_drop hi] at this
  simp only [Bool.and_eq_true, decide_eq_true_eq] at this
  exact this.1

/-- What the reference has found right when the first k failures have been looked at. -/
structure Seen (zs : List Int) (k : Nat) : Prop where
  each : ∀ i, i < k → isT (zs.getD i 0) = true
  up : ∀ i, i + 1 < k → zs.getD i 0 ≤ zs.getD (i + 1) 0
theorem Seen.zero (zs : List Int) : Seen zs 0 := ⟨fun _ h => absurd h (by omega), fun _ h => absurd h (by omega)⟩
theorem Seen.step {zs : List Int} {k : Nat} (h : Seen zs k) (h1 : isT (zs.getD k 0) = true) (h2 : ∀ j, k = j + 1 → zs.getD j 0 ≤ zs.getD k 0) : Seen zs (k + 1) := by
  refine ⟨fun i hi => ?_, fun i hi => ?_⟩
  · by_cases e : i = k
    · subst e; exact h1
    · exact h.each i (by omega)
  · by_cases e : i + 1 = k
    · subst e; exact h2 i rfl
    · exact h.up i (by omega)
theorem Seen.all {zs : List Int} {k : Nat} (h : Seen zs k) (hk : k = zs.length) : (∀ x ∈ zs, isT x = true) ∧ upB zs = true := by
  subst hk
  refine ⟨fun x hx => ?_, up_of h.up⟩
  obtain ⟨i, hi, rfl⟩ := List.getElem_of_mem hx
  have := h.each i hi
  simpa [List.getD_eq_getElem?_getD, hi] using this

set_option maxRecDepth 100000 in
set_option maxHeartbeats 2000000 in
theorem specBreakerOk_any (A : Option Addr) (n cap : Nat) (s u : Int) (zs : List Int) (w : World) (hn : zs.length = n) (hm : n ≤ 1048576) (h : Ints w A zs) :
    Calls Try.prog 19 #[.agg #[.int .i64 s, .slice A n cap, .int .i64 u]] w fun e w' => e = .returned (.bool (okB ⟨s, zs, u⟩)) ∧ Below w.heap.size w w' := by
  have HI := Lib.hid h
  have Hn := Lib.hid hn
  clear h hn
  have HF := Lib.hid (okB_false (b := ⟨s, zs, u⟩))
  have HT := Lib.hid ((okB_iff (b := ⟨s, zs, u⟩)).2)
  go_enter Try.func19, Try.ntmps19
  go_wp2_with fail
  refine (in_any s 0 2 _).mono ?_
  rintro e w1 ⟨rfl, rfl⟩
  cases hs : inB s 0 2
  · have Ho := Lib.hid (HF.out (fun v => by rw [inB_true v.s0 v.s1] at hs; cases hs))
    clear hs
    go_wp2
    go_ret
    exact ⟨by rw [Ho.out]; rfl, bel_alloc _ _⟩
  have hs' := inB_iff.1 hs
  have Hs := Lib.hid hs'
  clear hs hs'
  go_wp2_with fail
  refine (specTickOk_any u _).mono ?_
  rintro e w1 ⟨rfl, rfl⟩
  cases hu : isT u
  · have Ho := Lib.hid (HF.out (fun v => by rw [isT_true v.t0 v.t1] at hu; cases hu))
    clear hu
    go_wp2
    go_ret
    exact ⟨by rw [Ho.out]; rfl, bel_alloc _ _⟩
  have Hu := Lib.hid (isT_iff.1 hu)
  clear hu
  by_cases h20 : 20 < n
  · have Ho := Lib.hid (HF.out (fun v => by have := v.few; dsimp only at this; have := Hn.out; omega))
    go_wp2
    go_ret
    exact ⟨by rw [Ho.out]; rfl, bel_alloc _ _⟩
  have h20' : ¬ (20 : Int) < n := by omega
  by_cases hb : s = 0 ∧ u ≠ 0
  · obtain ⟨rfl, hu0⟩ := hb
    have Ho := Lib.hid (HF.out (fun v => hu0 (v.shut rfl)))
    have e0 : (u != 0) = true := by simpa using hu0
    clear hu0
    go_wp2
    go_ret
    exact ⟨by rw [Ho.out]; rfl, bel_alloc _ _⟩
  by_cases hb2 : s ≠ 0 ∧ 0 < n
  · obtain ⟨hs0, hn0⟩ := hb2
    have Ho := Lib.hid (HF.out (fun v => by have := v.none hs0; dsimp only at this; rw [this] at Hn; have := Hn.out; simp at this; omega))
    have e0 : (s == 0) = false := by simpa using hs0
    have e1 : (s != 0) = true := by simpa using hs0
    clear hs0 hb
    go_wp2
    go_ret
    exact ⟨by rw [Ho.out]; rfl, bel_alloc _ _⟩
  have hc : (s = 0 ∧ u = 0) ∨ (s ≠ 0 ∧ n = 0) := by omega
  clear hb hb2
  rcases hc with ⟨rfl, rfl⟩ | ⟨hs0, rfl⟩
  · have HW : Hid (∀ wr, Below (w.heap.size + 1) (w.alloc (.cells #[.int .i64 0, .slice A n cap, .int .i64 0] 31)) wr → PB wr w.heap.size (.int .i64 0) (.slice A n cap) (.int .i64 0) ∧ Ints wr A zs ∧ Below w.heap.size w wr) := fun wr hb =>
      ⟨(hb.block _ (by omega)).trans (heap_alloc_new w _), HI.out.below ((bel_alloc w _).trans (hb.mono (by omega))), (bel_alloc w _).trans (hb.mono (by omega))⟩
    go_wp2
    go_loopw [3] (fun i wr => ∃ k : Nat, k ≤ n ∧ i = .int .i64 k ∧ Below (w.heap.size + 1) (w.alloc (.cells #[.int .i64 0, .slice A n cap, .int .i64 0] 31)) wr ∧ Seen zs k) (fun i _ => n - (intOf i).toNat)
    case atStart => exact ⟨0, Nat.zero_le _, rfl, Below.refl _ _, Seen.zero zs⟩
    case round =>
      obtain ⟨k, hk, rfl, hr, hse⟩ := hrel
      have Hse := Lib.hid hse
      have Hr := Lib.hid hr
      clear hse hr
      obtain ⟨hbx, hsv, hbw⟩ := HW.out _ Hr.out
      obtain ⟨x0, x1, x2, xf⟩ := hbx.cells
      have Hsv := Lib.hid hsv
      have Hbw := Lib.hid hbw
      clear hbx hsv hbw xf
      by_cases hlt : k < n
      · obtain ⟨b, off, rfl, hc⟩ := Hsv.out (by have := Hn.out; omega)
        have c0 := hc k (by have := Hn.out; omega)
        have HC := Lib.hid hc
        clear hc
        obtain ⟨z, hz⟩ : ∃ z, zs.getD k 0 = z := ⟨_, rfl⟩
        rw [hz] at c0
        have Hz := Lib.hid hz
        clear hz
        have hk0 : (0 : Int) ≤ (k : Int) := by omega
        have hk1 : (k : Int) < (n : Int) := by omega
        cases h1 : isT z
        · have HT1 : Hid (∀ W, Calls Try.prog 50 #[.int .i64 z] W fun e w' => e = .returned (.bool false) ∧ W = w') := fun W => by have := specTickOk_any z W; rw [h1] at this; exact this
          have Ho := Lib.hid (HF.out (fun v => by have := v.ticks (zs.getD k 0) (by rw [List.getD_eq_getElem?_getD, List.getElem?_eq_getElem (by have := Hn.out; omega)]; simp); rw [Hz.out, h1] at this; cases this))
          clear h1
          go_wp2_with fail
          go_quiet ((go_at_call 50; exact quiet (HT1.out _)))
          go_wp2
          go_ret
          exact ⟨by rw [Ho.out]; rfl, below_drewN Hbw.out _⟩
        have HT1 : Hid (∀ W, Calls Try.prog 50 #[.int .i64 z] W fun e w' => e = .returned (.bool true) ∧ W = w') := fun W => by have := specTickOk_any z W; rw [h1] at this; exact this
        have H1 := Lib.hid h1
        clear h1
        by_cases hk00 : k = 0
        · have hkd : decide (0 < (k : Int)) = false := by simp; omega
          have hkd2 : decide (0 < k) = false := by simp; omega
          have hkn : ¬ 0 < k := by omega
          have hkn2 : ¬ (0 : Int) < (k : Int) := by omega
          have Hk0 := Lib.hid hk00
          clear hk00
          go_wp2_with fail
          go_quiet ((go_at_call 50; exact quiet (HT1.out _)))
          go_wp2
          go_roundw
          case rel => exact ⟨k + 1, by omega, by go_num, below_drewN Hr.out _, Hse.out.step (by rw [Hz.out]; exact H1.out) (fun j hj => absurd hj (by have := Hk0.out; omega))⟩
          case measure => simp [intOf]; omega
        · obtain ⟨j, hj⟩ : ∃ j, k = j + 1 := ⟨k - 1, by omega⟩
          have c1 := HC.out j (by have := Hn.out; omega)
          obtain ⟨y, hy⟩ : ∃ y, zs.getD j 0 = y := ⟨_, rfl⟩
          rw [hy] at c1
          have Hy := Lib.hid hy
          clear hy
          have hw1 : IntKind.i64.wrap ((k : Int) - 1) = (j : Int) := by rw [IntWalk.i64_in _ (by omega)]; omega
          have hj0 : (0 : Int) ≤ (j : Int) := by omega
          have hj1 : (j : Int) < (n : Int) := by omega
          have hkd : decide (0 < (k : Int)) = true := by simp; omega
          have hkp : 0 < k := by omega
          have Hj := Lib.hid hj
          clear hk00 hj
          by_cases hyz : z < y
          · have hd : decide (z < y) = true := by simpa using hyz
            have Ho := Lib.hid (HF.out (fun v => by have := up_at v.up (i := j) (by have := Hn.out; have := Hj.out; dsimp only; omega); dsimp only at this; rw [← Hj.out, Hy.out, Hz.out] at this; omega))
            clear hyz
            go_wp2_with fail
            go_quiet ((go_at_call 50; exact quiet (HT1.out _)))
            go_wp2
            go_ret
            exact ⟨by rw [Ho.out]; rfl, below_drewN Hbw.out _⟩
          · have hd : decide (z < y) = false := by simpa using hyz
            have Hyz : Hid (y ≤ z) := by show y ≤ z; omega
            clear hyz
            go_wp2_with fail
            go_quiet ((go_at_call 50; exact quiet (HT1.out _)))
            go_wp2
            go_roundw
            case rel =>
              refine ⟨k + 1, by omega, by go_num, below_drewN Hr.out _, Hse.out.step (by rw [Hz.out]; exact H1.out) (fun i hi => ?_)⟩
              obtain rfl : i = j := by have := Hj.out; omega
              rw [Hy.out, Hz.out]
              exact Hyz.out
            case measure => simp [intOf]; omega
      · obtain rfl : k = n := by omega
        have Ho := Lib.hid (HT.out (by obtain ⟨ha, hu2⟩ := Hse.out.all Hn.out.symm; exact ⟨Hs.out.1, Hs.out.2, Hu.out.1, Hu.out.2, by have := Hn.out; dsimp only; omega, fun _ => rfl, fun h => absurd rfl h, ha, hu2⟩))
        go_wp2
        go_ret
        exact ⟨by rw [Ho.out]; rfl, Hbw.out⟩
  · have e0 : (s == 0) = false := by simpa using hs0
    have e1 : (s != 0) = true := by simpa using hs0
    have Ho := Lib.hid (HT.out (by
      have hz : zs = [] := List.eq_nil_of_length_eq_zero Hn.out
      subst hz
      exact ⟨Hs.out.1, Hs.out.2, Hu.out.1, Hu.out.2, by simp, fun h => absurd h hs0, fun _ => rfl, fun x hx => (by cases hx), rfl⟩))
    clear hs0
    go_wp2
    go_loop [3] (fun i => i = .int .i64 0) (fun _ => 0)
    case atStart => rfl
    case round =>
      subst hrel
      go_wp2
      go_ret
      exact ⟨by rw [Ho.out]; rfl, bel_alloc _ _⟩
end Go.Proofs.Ytmmoelijpemlfaa.Bk
