/- Breakers that came in, and the laws' helpers on them: size, a copy, the comparison of two that read alike, marks written and looked for. -/
import Derived.Test.YtmmoelijpemlfaaIntN
import Derived.Test.YtmmoelijpemlfaaBk0
import Derived.Deep.Slices
import Derived.Deep.Fields
import Derived.ChangeSame
import Derived.OpenShut
namespace Go.Proofs.Ytmmoelijpemlfaa.Bk
open Go.RowKit Go.Deep Go.ChangeShapes Go.WideShapes Base Rw

section
variable {H : Type} {enc : TypeId × Value → H} {W : World} {base : Nat} {spare : Nat → Bool} {held : Bool}

theorem open_fails {fuel : Nat} {cs : List Value} {x : DataW H × List MemPlace} (h : DataW.trod enc Try.prog W base spare held fuel 29 cs = some x) :
    ∃ (A : Option Addr) (n cap : Nat) (zs : List Int), cs = [.slice A n cap] ∧ zs.length = n ∧ n ≤ maxLen ∧ Ints W A zs := by
  rcases open_ints Try.underlying29 Try.underlying3 (by kernel_rfl) h with ⟨hcs, _⟩ | ⟨x, l, c, zs, hcs, _, hl, hm, hz, _, hcell, hwz⟩
  · exact ⟨none, 0, 0, [], hcs, rfl, by simp, Ints.nil _ _⟩
  · have hlz : l ≤ zs.length ∧ zs.length ≤ c := by rw [hz]; split <;> omega
    have hi : IsRow .i64 W (some x) l zs.length zs := .inr ⟨_, rfl, hlz.1, by omega, rfl, hcell, hwz⟩
    exact ⟨_, l, c, zs.take l, hcs, hi.len.2.2, hi.len.2.1, hi.ints⟩

set_option maxRecDepth 100000 in
theorem open_breaker {rr : Reach} {b0 : Nat} {v : Value} {d : DataW H} {p : List MemPlace} (hv : Value.okWide Try.prog W rr b0 42 v) (h : DataW.Trod enc Try.prog W base spare held 42 v d p) :
    ∃ (A : Option Addr) (n cap : Nat) (s u : Int) (zs : List Int), v = .agg #[.int .i64 s, .slice A n cap, .int .i64 u] ∧ zs.length = n ∧ n ≤ maxLen ∧ Ints W A zs := by
  have hC : Try.prog.cellsOf 42 = 3 := by kernel_rfl
  have hI : Try.prog.cellsOf 3 = 1 := by kernel_rfl
  have hS : Try.prog.cellsOf 29 = 1 := by kernel_rfl
  obtain ⟨cs, rfl, hsz⟩ := okWide_struct Try.underlying42 hv
  obtain ⟨cl⟩ := cs
  obtain ⟨fuel, hf⟩ := h
  obtain ⟨ys, k, _, _, _, hyl, hg⟩ := DataW.trod_struct Try.underlying42 hf
  match cl, hsz.trans hC, ys, hyl with
  | [q0, q1, q2], _, [y0, y1, y2], _ =>
    have g0 : DataW.trod enc Try.prog W base spare held k 3 [q0] = some y0 := by have := hg 0 _ rfl; simpa [hI, Value.cells] using this
    have g1 : DataW.trod enc Try.prog W base spare held k 29 [q1] = some y1 := by have := hg 1 _ rfl; simpa [hS, Value.cells] using this
    have g2 : DataW.trod enc Try.prog W base spare held k 3 [q2] = some y2 := by have := hg 2 _ rfl; simpa [hI, Value.cells] using this
    obtain ⟨n0, e0, _⟩ := DataW.trod_int Try.underlying3 g0
    obtain ⟨A, n, cap, zs, e1, hn, hm, hl⟩ := open_fails g1
    obtain ⟨n2, e2, _⟩ := DataW.trod_int Try.underlying3 g2
    simp at e0 e1 e2
    subst e0 e1 e2
    exact ⟨A, n, cap, n0, n2, zs, rfl, hn, hm, hl⟩
end

theorem szBreaker_any (A : Option Addr) (n cap : Nat) (s u left : Int) (w : World) (hn : n ≤ 9223372036854775807) (h0 : 0 ≤ left) (h1 : left ≤ 1048576) :
    Calls Try.prog 23 #[.agg #[.int .i64 s, .slice A n cap, .int .i64 u], .int .i64 left] w fun e w' => e = .returned (.int .i64 (if left < n then -1 else left - n)) ∧ Below w.heap.size w w' := by
  by_cases hl : left < n
  · have hl' : ¬ 0 ≤ left - n := by omega
    go_enter Try.func23, Try.ntmps23
    go_wp2
    go_ret
    exact ⟨ret_int (by simp), (Below.refl _ _).alloc (Nat.le_refl _) _⟩
  · go_enter Try.func23, Try.ntmps23
    go_wp2
    go_ret
    exact ⟨ret_int (by simp), (Below.refl _ _).alloc (Nat.le_refl _) _⟩

/-- What a call that hands back a new breaker leaves: its slice lies in new memory, old memory stands. -/
def NewB (w : World) (s : Int) (zs : List Int) (u : Int) (e : Ending) (w' : World) : Prop :=
  ∃ A cap, e = .returned (.agg #[.int .i64 s, .slice A zs.length cap, .int .i64 u]) ∧ IV w' w.heap.size w'.heap.size A zs ∧ Below w.heap.size w w'

theorem iv_set {w : World} {lo hi : Nat} {A : Option Addr} {zs : List Int} (h : IV w lo hi A zs) {p : Addr} (hp : p.block < lo ∨ hi ≤ p.block) (u : Value) : IV (w.setCell p u) lo hi A zs :=
  h.of_block fun g h1 h2 => Below.heap_setCell w p u g (by rintro rfl; omega)

set_option maxHeartbeats 400000 in
theorem toBreaker_any (A : Option Addr) (n cap : Nat) (zs : List Int) (s u : Int) (w : World) (hn : zs.length = n) (hm : n ≤ 1048576) (h : Ints w A zs) :
    Calls Try.prog 24 #[.agg #[.int .i64 s, .slice A n cap, .int .i64 u]] w (NewB w s zs u) := by
  have Hn := Lib.hid hn
  clear hn
  have HI := Lib.hid h
  clear h
  go_enter Try.func24, Try.ntmps24
  go_wp2_with fail
  refine (toIntS_iv A n cap zs _ Hn.out hm (HI.out.below ?_)).mono ?_
  · exact (((Below.refl _ _).alloc (Nat.le_refl _) _).alloc (by simp) _).alloc (by simp <;> omega) _
  rintro e w1 ⟨rfl, hv, hb⟩
  simp only [World.size_alloc] at hv
  have Hv := Lib.hid hv
  clear hv
  obtain ⟨hc, hf⟩ := bcell hb
  have hz : w.heap.size + 1 + 1 < w1.heap.size := by have := hb.size; simp at this; omega
  have Hb := Lib.hid hb
  clear hb
  go_wp2
  refine bodyPost_ret (v := .agg #[.int .i64 s, .slice (some ⟨w.heap.size + 1 + 1 + 1, 0, none⟩) n n, .int .i64 u]) (by simp [results, Try.results24, go_sem, hc]) rfl ⟨_, n, by rw [Hn.out], ?_, ?_⟩
  · refine IV.wide (lo := w.heap.size + 1 + 1 + 1) (hi := w1.heap.size) ?_ (by omega) (by simp [World.setCell])
    iterate 5 refine iv_set ?_ (by simp <;> omega) _
    exact Hv.out
  · iterate 5 refine Below.setCell ?_ (by simp <;> omega) _
    exact bel_trans ((((Below.refl _ _).alloc (Nat.le_refl _) _).alloc (by simp) _).alloc (by simp; omega) _) Hb.out

set_option maxHeartbeats 400000 in
theorem eqBreaker_same (A1 A2 : Option Addr) (n c1 c2 : Nat) (zs : List Int) (s u : Int) (w : World) (hn : zs.length = n) (hm : n ≤ 1048576) (h1 : Ints w A1 zs) (h2 : Ints w A2 zs) :
    Calls Try.prog 26 #[.agg #[.int .i64 s, .slice A1 n c1, .int .i64 u], .agg #[.int .i64 s, .slice A2 n c2, .int .i64 u]] w fun e w' => e = .returned (.bool true) ∧ Below w.heap.size w w' := by
  have Hn := Lib.hid hn
  clear hn
  have H1 := Lib.hid h1
  have H2 := Lib.hid h2
  clear h1 h2
  have ha : ∀ o o', Below w.heap.size w ((w.alloc o).alloc o') := fun o o' => ((Below.refl _ _).alloc (Nat.le_refl _) _).alloc (by simp) _
  have Ha := Lib.hid ha
  clear ha
  go_enter Try.func26, Try.ntmps26
  go_wp2_with fail
  refine (eqInts_same A1 A2 n c1 c2 zs _ Hn.out hm (H1.out.below (Ha.out _ _)) (H2.out.below (Ha.out _ _))).mono ?_
  rintro e w1 ⟨rfl, hb⟩
  obtain ⟨hc, hf⟩ := bcell hb
  have Hb := Lib.hid hb
  clear hb
  go_wp2
  go_ret
  exact ⟨rfl, bel_trans (Ha.out _ _) Hb.out⟩

set_option maxHeartbeats 400000 in
theorem markBreaker_any (A : Option Addr) (n cap lo hi : Nat) (k s u : Int) (zs : List Int) (w : World) (hn : zs.length = n) (hm : n ≤ 1048576) (hk0 : 0 ≤ k) (hk1 : k ≤ 1099511627776) (h : IV w lo hi A zs) (hs : hi ≤ w.heap.size) :
    Calls Try.prog 30 #[.agg #[.int .i64 s, .slice A n cap, .int .i64 u], .int .i64 k] w fun e w' => e = .returned (.int .i64 (k + n)) ∧ IV w' lo hi A (mkI k n) ∧ Turns lo hi w w' := by
  have Hn := Lib.hid hn
  clear hn
  have H := Lib.hid h
  clear h
  go_enter Try.func30, Try.ntmps30
  go_wp2_with fail
  refine (markInts_any A n cap lo hi k zs _ Hn.out hm hk0 hk1 (H.out.below (bel_alloc _ _) hs)).mono ?_
  rintro e w1 ⟨rfl, hv, ht⟩
  have Hv := Lib.hid hv
  have Ht := Lib.hid ht
  clear hv ht
  go_wp2
  go_ret
  exact ⟨rfl, Hv.out, (Turns.of_below (bel_alloc _ _)).trans Ht.out⟩

set_option maxHeartbeats 400000 in
theorem heldBreaker_any (A : Option Addr) (n cap lo hi : Nat) (k s u : Int) (w : World) (hm : n ≤ 1048576) (hk0 : 0 ≤ k) (hk1 : k ≤ 1099511627776) (h : IV w lo hi A (mkI k n)) (hs : hi ≤ w.heap.size) :
    Calls Try.prog 31 #[.agg #[.int .i64 s, .slice A n cap, .int .i64 u], .int .i64 k] w fun e w' => e = .returned (.int .i64 (k + n)) ∧ Below w.heap.size w w' := by
  have H := Lib.hid h
  clear h
  have hk2 : 0 ≤ k + (n : Int) := by omega
  go_enter Try.func31, Try.ntmps31
  go_wp2_with fail
  refine (heldInts_any A n cap lo hi k _ hm hk0 hk1 (H.out.below (bel_alloc _ _) hs)).mono ?_
  rintro e w1 ⟨rfl, rfl⟩
  go_wp2
  go_ret
  exact ⟨rfl, bel_alloc _ _⟩

/-- The law's own breaker in a box; the program's. -/
def LB (w : World) (g : Nat) (v0 v1 v2 : Value) : Prop := w.heap[g]? = some (.cells #[v0, v1, v2] 42 (0, 0))
def PB (w : World) (g : Nat) (v0 v1 v2 : Value) : Prop := w.heap[g]? = some (.cells #[v0, v1, v2] 31 (0, 0))
theorem LB.cells {w : World} {g : Nat} {v0 v1 v2 : Value} (h : LB w g v0 v1 v2) : w.cell? ⟨g, 0, none⟩ = some v0 ∧ w.cell? ⟨g, 1, none⟩ = some v1 ∧ w.cell? ⟨g, 2, none⟩ = some v2 := by
  have hc : ∀ o, w.cell? ⟨g, o, none⟩ = #[v0, v1, v2][o]? := fun o => cell_of_row _ _ o _ _ (0, 0) h
  refine ⟨?_, ?_, ?_⟩ <;> (rw [hc]; rfl)
theorem PB.cells {w : World} {g : Nat} {v0 v1 v2 : Value} (h : PB w g v0 v1 v2) : w.cell? ⟨g, 0, none⟩ = some v0 ∧ w.cell? ⟨g, 1, none⟩ = some v1 ∧ w.cell? ⟨g, 2, none⟩ = some v2 ∧ ∀ o, w.frozen? ⟨g, o, none⟩ = false := by
  have hc : ∀ o, w.cell? ⟨g, o, none⟩ = #[v0, v1, v2][o]? := fun o => cell_of_row _ _ o _ _ (0, 0) h
  refine ⟨?_, ?_, ?_, fun o => by unfold PB at h; simp [World.frozen?, h]⟩ <;> (rw [hc]; rfl)
theorem LB.lt {w : World} {g : Nat} {v0 v1 v2 : Value} (h : LB w g v0 v1 v2) : g < w.heap.size := (Array.getElem?_eq_some_iff.1 h).1
theorem PB.lt {w : World} {g : Nat} {v0 v1 v2 : Value} (h : PB w g v0 v1 v2) : g < w.heap.size := (Array.getElem?_eq_some_iff.1 h).1
theorem LB.below {w w' : World} {g B : Nat} {v0 v1 v2 : Value} (h : LB w g v0 v1 v2) (hb : Below B w w') (hB : g < B) : LB w' g v0 v1 v2 := (hb.block g hB).trans h
theorem PB.below {w w' : World} {g B : Nat} {v0 v1 v2 : Value} (h : PB w g v0 v1 v2) (hb : Below B w w') (hB : g < B) : PB w' g v0 v1 v2 := (hb.block g hB).trans h
end Go.Proofs.Ytmmoelijpemlfaa.Bk
