/- Contracts of the laws' helpers that write marks into a heap's items and look for them again. Rows of integers that a call has made: compared, marked, held. -/
import Derived.Test.YtpjelojmkmednaaLh5
namespace Go.Proofs.Ytpjelojmkmednaa.Hp
open Go.RowKit Go.Deep Base

/-- The n items from block b's head on are f 0, f 1, .., and may be written. -/
def RdF (w : World) (b n : Nat) (f : Nat → Du) : Prop :=
  ∀ i, i < n → w.cell? ⟨b, i * 3, none⟩ = some (.int .i64 (f i).at) ∧ w.cell? ⟨b, i * 3 + 1, none⟩ = some (.int .i64 (f i).seq)
    ∧ w.cell? ⟨b, i * 3 + 2, none⟩ = some (.int .i64 (f i).id) ∧ ∀ j, w.frozen? ⟨b, j, none⟩ = false

theorem cell_set3 {w : World} {b i p : Nat} {s : Du} (h : (w.cell? ⟨b, p, none⟩).isSome = true) :
    (set3 w b i s).cell? ⟨b, p, none⟩ = if p = i * 3 + 2 then some (.int .i64 s.id) else if p = i * 3 + 1 then some (.int .i64 s.seq) else if p = i * 3 then some (.int .i64 s.at) else w.cell? ⟨b, p, none⟩ := by
  unfold set3
  rw [cell_set (some_set (some_set h)), cell_set (some_set h), cell_set h]

theorem RdF.set {w : World} {b n : Nat} {f : Nat → Du} (h : RdF w b n f) (i : Nat) (s : Du) : RdF (set3 w b i s) b n (fun j => if j = i then s else f j) := by
  intro j hj
  obtain ⟨h0, h1, h2, h4⟩ := h j hj
  have hs : ∀ {p x}, w.cell? ⟨b, p, none⟩ = some x → (w.cell? ⟨b, p, none⟩).isSome = true := fun h => by rw [h]; rfl
  rw [cell_set3 (hs h0), cell_set3 (hs h1), cell_set3 (hs h2)]
  have hf : ∀ j, (set3 w b i s).frozen? ⟨b, j, none⟩ = false := fun k => by unfold set3; simp only [World.frozen?_setCell]; exact h4 k
  by_cases e : j = i
  · subst e
    simp only [if_pos]
    exact ⟨by rw [if_neg (by omega), if_neg (by omega)], by rw [if_neg (by omega)], trivial, hf⟩
  · simp only [if_neg e]
    exact ⟨by rw [if_neg (by omega), if_neg (by omega), if_neg (by omega)]; exact h0, by rw [if_neg (by omega), if_neg (by omega), if_neg (by omega)]; exact h1, by rw [if_neg (by omega), if_neg (by omega), if_neg (by omega)]; exact h2, hf⟩

theorem RdF.congr {w : World} {b n : Nat} {f g : Nat → Du} (h : RdF w b n f) (e : ∀ i, i < n → f i = g i) : RdF w b n g := fun i hi => e i hi ▸ h i hi

/-- The marks of item i, counted from k on. -/
def mkS (k : Int) (i : Nat) : Du := ⟨k + 3 * i, k + 3 * i + 1, k + 3 * i + 1 + 1⟩

def mkL (k : Int) (n : Nat) : List Du := (List.range n).map (mkS k)

theorem mkL_len (k : Int) (n : Nat) : (mkL k n).length = n := by simp [mkL]
theorem mkL_at (k : Int) (n i : Nat) (h : i < n) : (mkL k n).getD i zDu = mkS k i := by simp [mkL, h]

def MarkSt (w wr : World) (lo hi : Nat) (A : Option Addr) (n : Nat) (k : Int) (ds : List Du) (i : Nat) : Prop :=
  (0 < n → ∃ g, A = some ⟨g, 0, none⟩ ∧ lo ≤ g ∧ g < hi ∧ RdF wr g n (fun j => if j < i then mkS k j else ds.getD j zDu)) ∧ Tn lo hi w wr

theorem MarkSt.step {w wr : World} {lo hi g n i : Nat} {k : Int} {ds : List Du} (h : MarkSt w wr lo hi (some ⟨g, 0, none⟩) n k ds i) (hn : 0 < n) : MarkSt w (set3 wr g i (mkS k i)) lo hi (some ⟨g, 0, none⟩) n k ds (i + 1) := by
  obtain ⟨g', e, h1, h2, h3⟩ := h.1 hn
  cases e
  refine ⟨fun _ => ⟨g, rfl, h1, h2, (h3.set i (mkS k i)).congr fun j hj => ?_⟩, h.2.set3 h1 h2 i _⟩
  by_cases e : j = i
  · subst e; simp
  · simp only [if_neg e]
    by_cases l : j < i
    · rw [if_pos l, if_pos (by omega)]
    · rw [if_neg l, if_neg (by omega)]

set_option maxRecDepth 100000 in
set_option maxHeartbeats 800000 in
theorem markDueS_any (A : Option Addr) (n cap lo hi : Nat) (k : Int) (ds : List Du) (w : World) (hn : ds.length = n) (hm : n ≤ 1048676) (hk0 : 0 ≤ k) (hk1 : k ≤ 1099511627776) (h : DV w lo hi A ds) :
    Calls Try.prog 106 #[.slice A n cap, .int .i64 k] w fun e w' => e = .returned (.int .i64 (k + 3 * n)) ∧ DV w' lo hi A (mkL k n) ∧ Tn lo hi w w' := by
  have Hn := Lib.hid hn
  clear hn
  have HS : Hid (MarkSt w w lo hi A n k ds 0) := ⟨fun hp => by
    obtain ⟨g, e, h1, h2, h3⟩ := h (by have := Hn.out; omega)
    exact ⟨g, e, h1, h2, fun i hi => by simpa using h3 i (by have := Hn.out; omega)⟩, Tn.of_below (Below.refl _ _)⟩
  clear h
  go_enter Try.func106, Try.ntmps106
  go_wp2
  go_loopw [1, 5] (fun t i wr => ∃ j : Nat, j ≤ n ∧ i = .int .i64 j ∧ t = .int .i64 (k + 3 * j) ∧ MarkSt w wr lo hi A n k ds j) (fun _ i _ => n - (intOf i).toNat)
  case atStart => exact ⟨0, Nat.zero_le _, rfl, by simp, HS.out⟩
  case round =>
    obtain ⟨j, hj, rfl, rfl, hr⟩ := hrel
    clear HS
    by_cases hlt : j < n
    · obtain ⟨g, rfl, h1, h2, h3⟩ := hr.1 (by omega)
      obtain ⟨c0, c1, c2, c4⟩ := h3 j hlt
      simp only [Nat.lt_irrefl, if_false] at c0 c1 c2
      generalize ds.getD j zDu = s at c0 c1 c2
      have Hr := Lib.hid (hr.step (by omega))
      clear hr h3
      go_wp2
      go_roundw
      case rel => exact ⟨j + 1, by omega, by go_num, by go_num, Hr.out⟩
      case measure => simp [intOf]; omega
    · have Hr := Lib.hid hr
      clear hr
      obtain rfl : j = n := by omega
      go_wp2
      go_ret
      refine ⟨rfl, fun hp => ?_, Hr.out.2⟩
      rw [mkL_len] at hp
      obtain ⟨g, e, h1, h2, h3⟩ := Hr.out.1 hp
      refine ⟨g, e, h1, h2, fun i hi => ?_⟩
      rw [mkL_len] at hi
      have := h3 i hi
      simp only [if_pos hi] at this
      rw [mkL_at _ _ _ hi]
      exact this

set_option maxRecDepth 100000 in
set_option maxHeartbeats 800000 in
theorem heldDueS_any (A : Option Addr) (n cap lo hi : Nat) (k : Int) (w : World) (hm : n ≤ 1048676) (hk0 : 0 ≤ k) (hk1 : k ≤ 1099511627776) (h : DV w lo hi A (mkL k n)) :
    Calls Try.prog 108 #[.slice A n cap, .int .i64 k] w fun e w' => e = .returned (.int .i64 (k + 3 * n)) ∧ w = w' := by
  have HS := Lib.hid h
  clear h
  go_enter Try.func108, Try.ntmps108
  go_wp2
  go_loop [1, 5] (fun t i => ∃ j : Nat, j ≤ n ∧ i = .int .i64 j ∧ t = .int .i64 (k + 3 * j)) (fun _ i => n - (intOf i).toNat)
  case atStart => exact ⟨0, Nat.zero_le _, rfl, by simp⟩
  case round =>
    obtain ⟨j, hj, rfl, rfl⟩ := hrel
    by_cases hlt : j < n
    · obtain ⟨g, rfl, h1, h2, h3⟩ := HS.out (by rw [mkL_len]; omega)
      obtain ⟨c0, c1, c2, _⟩ := h3 j (by rw [mkL_len]; exact hlt)
      rw [mkL_at _ _ _ hlt] at c0 c1 c2
      simp only [mkS] at c0 c1 c2
      clear h3
      go_wp2
      go_round
      case rel => exact ⟨j + 1, by omega, by go_num, by go_num⟩
      case measure => simp [intOf]; omega
    · obtain rfl : j = n := by omega
      go_wp2
      go_ret
      exact ⟨rfl, rfl⟩

set_option maxRecDepth 100000 in
set_option maxHeartbeats 400000 in
theorem markHeap_any (A : Option Addr) (n cap lo hi : Nat) (k q : Int) (ds : List Du) (w : World) (hn : ds.length = n) (hm : n ≤ 1048676) (hk0 : 0 ≤ k) (hk1 : k ≤ 1099511627776) (h : DV w lo hi A ds) (hs : hi ≤ w.heap.size) :
    Calls Try.prog 66 #[.agg #[.slice A n cap, .int .i64 q], .int .i64 k] w fun e w' => e = .returned (.int .i64 (k + 3 * n)) ∧ DV w' lo hi A (mkL k n) ∧ Tn lo hi w w' := by
  have Hn := Lib.hid hn
  clear hn
  have H := Lib.hid h
  clear h
  go_enter Try.func66, Try.ntmps66
  go_wp2_with fail
  refine (markDueS_any A n cap lo hi k ds _ Hn.out hm hk0 hk1 (H.out.below (bel_alloc _ _) hs)).mono ?_
  rintro e w1 ⟨rfl, hv, ht⟩
  have Hv := Lib.hid hv
  have Ht := Lib.hid ht
  clear hv ht
  go_wp2
  go_ret
  exact ⟨rfl, Hv.out, (Tn.of_below (bel_alloc _ _)).trans Ht.out⟩

set_option maxRecDepth 100000 in
set_option maxHeartbeats 400000 in
theorem heldHeap_any (A : Option Addr) (n cap lo hi : Nat) (k q : Int) (w : World) (hm : n ≤ 1048676) (hk0 : 0 ≤ k) (hk1 : k ≤ 1099511627776) (h : DV w lo hi A (mkL k n)) (hs : hi ≤ w.heap.size) :
    Calls Try.prog 68 #[.agg #[.slice A n cap, .int .i64 q], .int .i64 k] w fun e w' => e = .returned (.int .i64 (k + 3 * n)) ∧ Below w.heap.size w w' := by
  have H := Lib.hid h
  clear h
  have hk2 : 0 ≤ k + 3 * (n : Int) := by omega
  go_enter Try.func68, Try.ntmps68
  go_wp2_with fail
  refine (heldDueS_any A n cap lo hi k _ hm hk0 hk1 (H.out.below (bel_alloc _ _) hs)).mono ?_
  rintro e w1 ⟨rfl, rfl⟩
  go_wp2
  go_ret
  exact ⟨rfl, bel_alloc _ _⟩
end Go.Proofs.Ytpjelojmkmednaa.Hp

namespace Go.Proofs.Ytpjelojmkmednaa.Hp
open Go.RowKit Go.Deep Base

def RI (w : World) (g : Nat) (zs : List Int) : Prop := ∀ i, i < zs.length → w.cell? ⟨g, i, none⟩ = some (.int .i64 (zs.getD i 0)) ∧ ∀ j, w.frozen? ⟨g, j, none⟩ = false
def IV (w : World) (lo hi : Nat) (A : Option Addr) (zs : List Int) : Prop := 0 < zs.length → ∃ g, A = some ⟨g, 0, none⟩ ∧ lo ≤ g ∧ g < hi ∧ RI w g zs
/-- A new row of integers comes back. -/
def NewI (w : World) (zs : List Int) (e : Ending) (w' : World) : Prop := ∃ A cap, e = .returned (.slice A zs.length cap) ∧ IV w' w.heap.size w'.heap.size A zs ∧ Below w.heap.size w w'

theorem RI.of_block {w w' : World} {g : Nat} {zs : List Int} (h : RI w g zs) (e : w'.heap[g]? = w.heap[g]?) : RI w' g zs := fun i hi =>
  ⟨(World.cell?_of_block e).trans (h i hi).1, fun j => (World.frozen?_of_block e).trans ((h i hi).2 j)⟩
theorem IV.of_block {w w' : World} {lo hi : Nat} {A : Option Addr} {zs : List Int} (h : IV w lo hi A zs) (e : ∀ g, lo ≤ g → g < hi → w'.heap[g]? = w.heap[g]?) : IV w' lo hi A zs := by
  intro hp
  obtain ⟨g, rfl, h1, h2, h3⟩ := h hp
  exact ⟨g, rfl, h1, h2, h3.of_block (e g h1 h2)⟩
theorem IV.wide {w : World} {lo hi lo' hi' : Nat} {A : Option Addr} {zs : List Int} (h : IV w lo hi A zs) (h1 : lo' ≤ lo) (h2 : hi ≤ hi') : IV w lo' hi' A zs := by
  intro hp
  obtain ⟨g, rfl, h1', h2', h3⟩ := h hp
  exact ⟨g, rfl, by omega, by omega, h3⟩
theorem IV.below {w w' : World} {lo hi B : Nat} {A : Option Addr} {zs : List Int} (h : IV w lo hi A zs) (hb : Below B w w') (hB : hi ≤ B) : IV w' lo hi A zs :=
  h.of_block fun g _ h2 => hb.block g (by omega)
theorem IV.turns {w w' : World} {lo hi l h : Nat} {A : Option Addr} {zs : List Int} (s : IV w lo hi A zs) (t : Tn l h w w') (hd : hi ≤ l ∨ h ≤ lo) (hs : hi ≤ w.heap.size) : IV w' lo hi A zs :=
  s.of_block fun g _ h2 => t.block g (by omega) (by omega)
theorem IV.ints {w : World} {lo hi : Nat} {A : Option Addr} {zs : List Int} (h : IV w lo hi A zs) : Ints w A zs := by
  intro hp
  obtain ⟨g, rfl, _, _, h3⟩ := h hp
  exact ⟨g, 0, rfl, fun i hi => by rw [Nat.zero_add]; exact (h3 i hi).1⟩
theorem IV.nil (w : World) (lo hi : Nat) (A : Option Addr) : IV w lo hi A [] := fun h => absurd h (by simp)
theorem iv_owns {w : World} {base n cap : Nat} {e : TypeId} {A : Option Addr} {zs : List Int} (h : w.ownsRow base e 1 (.slice A n cap) n (zs.map (Value.int .i64))) : IV w base w.heap.size A zs := by
  intro hp
  have hl := h.1
  simp at hl
  rcases h.2 with ⟨hv, hn⟩ | ⟨g, cap', cur, hv, hb, hg, hfr⟩
  · omega
  · injection hv with hA _ _
    subst hA
    have hc : w.ownsRow base e 1 (.slice (some ⟨g, 0, none⟩) n cap) n (zs.map (Value.int .i64)) := h
    refine ⟨g, rfl, hb, (h.lt g rfl).2, fun i hi => ⟨?_, fun j => ?_⟩⟩
    · rw [hc.cellAt i (by omega)]
      simp [hi]
    · simp [World.frozen?, hg]

set_option maxRecDepth 100000 in
set_option maxHeartbeats 400000 in
theorem eqInts_same (A1 A2 : Option Addr) (n c1 c2 : Nat) (zs : List Int) (w : World) (hn : zs.length = n) (hm : n ≤ 1048576) (h1 : Ints w A1 zs) (h2 : Ints w A2 zs) :
    Calls Try.prog 35 #[.slice A1 n c1, .slice A2 n c2] w fun e w' => e = .returned (.bool true) ∧ Below w.heap.size w w' := by
  have Hn := Lib.hid hn
  clear hn
  have H1 := Lib.hid h1
  have H2 := Lib.hid h2
  clear h1 h2
  go_enter Try.func35, Try.ntmps35
  go_wp2
  go_loopw [5] (fun i wr => ∃ k : Nat, k ≤ n ∧ i = .int .i64 k ∧ Below w.heap.size w wr) (fun i _ => n - (intOf i).toNat)
  case atStart => exact ⟨0, Nat.zero_le _, rfl, Below.refl _ _⟩
  case round =>
    obtain ⟨k, hk, rfl, hr⟩ := hrel
    by_cases hlt : k < n
    · obtain ⟨b, off, rfl, hc⟩ := H1.out.below hr (by have := Hn.out; omega)
      have hc1 := hc k (by have := Hn.out; omega)
      clear hc
      obtain ⟨b', off', rfl, hc⟩ := H2.out.below hr (by have := Hn.out; omega)
      have hc2 := hc k (by have := Hn.out; omega)
      clear hc
      generalize zs.getD k 0 = z at hc1 hc2
      go_wp2
      go_region
      all_goals
        go_wp2
        go_roundw
        case rel => exact ⟨k + 1, by omega, by go_num, by repeat (first | exact hr | apply Below.drew)⟩
        case measure => simp [intOf]; omega
    · go_wp2
      go_ret
      exact ⟨rfl, hr⟩

def mkI (k : Int) (n : Nat) : List Int := (List.range n).map fun (i : Nat) => k + (i : Int)
theorem mkI_len (k : Int) (n : Nat) : (mkI k n).length = n := by simp [mkI]
theorem mkI_at (k : Int) (n i : Nat) (h : i < n) : (mkI k n).getD i 0 = k + (i : Int) := by simp [mkI, h]

def MarkIt (w wr : World) (lo hi : Nat) (A : Option Addr) (n : Nat) (k : Int) (zs : List Int) (i : Nat) : Prop :=
  (0 < n → ∃ g, A = some ⟨g, 0, none⟩ ∧ lo ≤ g ∧ g < hi ∧ ∀ j, j < n → wr.cell? ⟨g, j, none⟩ = some (.int .i64 (if j < i then k + (j : Int) else zs.getD j 0)) ∧ ∀ o, wr.frozen? ⟨g, o, none⟩ = false) ∧ Tn lo hi w wr

theorem MarkIt.step {w wr : World} {lo hi g n i : Nat} {k : Int} {zs : List Int} (h : MarkIt w wr lo hi (some ⟨g, 0, none⟩) n k zs i) (hn : 0 < n) : MarkIt w (wr.setCell ⟨g, i, none⟩ (.int .i64 (k + (i : Int)))) lo hi (some ⟨g, 0, none⟩) n k zs (i + 1) := by
  obtain ⟨g', e, h1, h2, h3⟩ := h.1 hn
  cases e
  refine ⟨fun _ => ⟨g, rfl, h1, h2, fun j hj => ⟨?_, fun o => by rw [World.frozen?_setCell]; exact (h3 j hj).2 o⟩⟩, h.2.setCell h1 h2 _⟩
  rw [cell_set (by rw [(h3 j hj).1]; rfl)]
  by_cases e : j = i
  · subst e; simp
  · rw [if_neg e, (h3 j hj).1]
    by_cases l : j < i
    · rw [if_pos l, if_pos (by omega)]
    · rw [if_neg l, if_neg (by omega)]

set_option maxRecDepth 100000 in
set_option maxHeartbeats 800000 in
theorem markInts_any (A : Option Addr) (n cap lo hi : Nat) (k : Int) (zs : List Int) (w : World) (hn : zs.length = n) (hm : n ≤ 1048576) (hk0 : 0 ≤ k) (hk1 : k ≤ 1099511627776) (h : IV w lo hi A zs) :
    Calls Try.prog 36 #[.slice A n cap, .int .i64 k] w fun e w' => e = .returned (.int .i64 (k + n)) ∧ IV w' lo hi A (mkI k n) ∧ Tn lo hi w w' := by
  have Hn := Lib.hid hn
  clear hn
  have HS : Hid (MarkIt w w lo hi A n k zs 0) := ⟨fun hp => by
    obtain ⟨g, e, h1, h2, h3⟩ := h (by have := Hn.out; omega)
    exact ⟨g, e, h1, h2, fun i hi => by simpa using h3 i (by have := Hn.out; omega)⟩, Tn.of_below (Below.refl _ _)⟩
  clear h
  go_enter Try.func36, Try.ntmps36
  go_wp2
  go_loopw [1, 5] (fun t i wr => ∃ j : Nat, j ≤ n ∧ i = .int .i64 j ∧ t = .int .i64 (k + j) ∧ MarkIt w wr lo hi A n k zs j) (fun _ i _ => n - (intOf i).toNat)
  case atStart => exact ⟨0, Nat.zero_le _, rfl, by simp, HS.out⟩
  case round =>
    obtain ⟨j, hj, rfl, rfl, hr⟩ := hrel
    clear HS
    by_cases hlt : j < n
    · obtain ⟨g, rfl, h1, h2, h3⟩ := hr.1 (by omega)
      obtain ⟨c0, c4⟩ := h3 j hlt
      simp only [Nat.lt_irrefl, if_false] at c0
      generalize zs.getD j 0 = s at c0
      have Hr := Lib.hid (hr.step (by omega))
      clear hr h3
      go_wp2
      go_roundw
      case rel => exact ⟨j + 1, by omega, by go_num, by go_num, Hr.out⟩
      case measure => simp [intOf]; omega
    · have Hr := Lib.hid hr
      clear hr
      obtain rfl : j = n := by omega
      go_wp2
      go_ret
      refine ⟨rfl, fun hp => ?_, Hr.out.2⟩
      rw [mkI_len] at hp
      obtain ⟨g, e, h1, h2, h3⟩ := Hr.out.1 hp
      refine ⟨g, e, h1, h2, fun i hi => ?_⟩
      rw [mkI_len] at hi
      have := h3 i hi
      simp only [if_pos hi] at this
      rw [mkI_at _ _ _ hi]
      exact this

set_option maxRecDepth 100000 in
set_option maxHeartbeats 800000 in
theorem heldInts_any (A : Option Addr) (n cap lo hi : Nat) (k : Int) (w : World) (hm : n ≤ 1048576) (hk0 : 0 ≤ k) (hk1 : k ≤ 1099511627776) (h : IV w lo hi A (mkI k n)) :
    Calls Try.prog 37 #[.slice A n cap, .int .i64 k] w fun e w' => e = .returned (.int .i64 (k + n)) ∧ w = w' := by
  have HS := Lib.hid h
  clear h
  go_enter Try.func37, Try.ntmps37
  go_wp2
  go_loop [1, 5] (fun t i => ∃ j : Nat, j ≤ n ∧ i = .int .i64 j ∧ t = .int .i64 (k + j)) (fun _ i => n - (intOf i).toNat)
  case atStart => exact ⟨0, Nat.zero_le _, rfl, by simp⟩
  case round =>
    obtain ⟨j, hj, rfl, rfl⟩ := hrel
    by_cases hlt : j < n
    · obtain ⟨g, rfl, h1, h2, h3⟩ := HS.out (by rw [mkI_len]; omega)
      obtain ⟨c0, _⟩ := h3 j (by rw [mkI_len]; exact hlt)
      rw [mkI_at _ _ _ hlt] at c0
      clear h3
      go_wp2
      go_round
      case rel => exact ⟨j + 1, by omega, by go_num, by go_num⟩
      case measure => simp [intOf]; omega
    · obtain rfl : j = n := by omega
      go_wp2
      go_ret
      exact ⟨rfl, rfl⟩
end Go.Proofs.Ytpjelojmkmednaa.Hp
