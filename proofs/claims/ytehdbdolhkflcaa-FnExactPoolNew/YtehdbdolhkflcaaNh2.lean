/- Contracts of the laws' helpers that write marks into a heap's items and look for them again. Rows of integers that a call has made: compared, marked, held. What NextDue answers: the reference's and the program's. What the program's NextDue answers. -/
import Derived.Test.YtehdbdolhkflcaaNh1
import Derived.Test.YtehdbdolhkflcaaNh0
namespace Go.Proofs.Ytehdbdolhkflcaa.Hp
open Go.RowKit Go.Deep Base

/-- The n items from block b's head on are f 0, f 1, .., and may be written. -/
def RdF (w : World) (b n : Nat) (f : Nat → Du) : Prop :=
  ∀ i, i < n → w.cell? ⟨b, i * 3, none⟩ = some (.int .i64 (f i).at) ∧ w.cell? ⟨b, i * 3 + 1, none⟩ = some (.int .i64 (f i).seq)
    ∧ w.cell? ⟨b, i * 3 + 2, none⟩ = some (.int .i64 (f i).id) ∧ ∀ j, w.frozen? ⟨b, j, none⟩ = false

theorem cell_set3 {w : World} {b i p : Nat} {s : Du} (h : (w.cell? ⟨b, p, none⟩).isSome = true) :
    (set3 w b i s).cell? ⟨b, p, none⟩ = if p = i * 3 + 2 then some (.int .i64 s.id) else if p = i * 3 + 1 then some (.int .i64 s.seq) else if p = i * 3 then some (.int .i64 s.at) else w.cell? ⟨b, p, none⟩ := by
  unfold set3
  rw [cell_set (some_set (some_set h)), cell_set (some_set h), cell_set h]

theorem RdF.set {w : World} {b n : Nat} {f : Nat → Du} (h : RdF w b n f) (i : Nat) (s : Du) : RdF (set3 w b i s) b n (fun j => if j = i then s else f j) := by
  intro j hj
  obtain ⟨h0, h1, h2, h4⟩ := h j hj
  have hs : ∀ {p x}, w.cell? ⟨b, p, none⟩ = some x → (w.cell? ⟨b, p, none⟩).isSome = true := fun h => by rw [h]; rfl
  rw [cell_set3 (hs h0), cell_set3 (hs h1), cell_set3 (hs h2)]
  have hf : ∀ j, (set3 w b i s).frozen? ⟨b, j, none⟩ = false := fun k => by unfold set3; simp only [World.frozen?_setCell]; exact h4 k
  by_cases e : j = i
  · subst e
    simp only [if_pos]
    exact ⟨by rw [if_neg (by omega), if_neg (by omega)], by rw [if_neg (by omega)], trivial, hf⟩
  · simp only [if_neg e]
    exact ⟨by rw [if_neg (by omega), if_neg (by omega), if_neg (by omega)]; exact h0, by rw [if_neg (by omega), if_neg (by omega), if_neg (by omega)]; exact h1, by rw [if_neg (by omega), if_neg (by omega), if_neg (by omega)]; exact h2, hf⟩

theorem RdF.congr {w : World} {b n : Nat} {f g : Nat → Du} (h : RdF w b n f) (e : ∀ i, i < n → f i = g i) : RdF w b n g := fun i hi => e i hi ▸ h i hi

/-- The marks of item i, counted from k on. -/
def mkS (k : Int) (i : Nat) : Du := ⟨k + 3 * i, k + 3 * i + 1, k + 3 * i + 1 + 1⟩

def mkL (k : Int) (n : Nat) : List Du := (List.range n).map (mkS k)

theorem mkL_len (k : Int) (n : Nat) : (mkL k n).length = n := by simp [mkL]
theorem mkL_at (k : Int) (n i : Nat) (h : i < n) : (mkL k n).getD i zDu = mkS k i := by simp [mkL, h]

def MarkSt (w wr : World) (lo hi : Nat) (A : Option Addr) (n : Nat) (k : Int) (ds : List Du) (i : Nat) : Prop :=
  (0 < n → ∃ g, A = some ⟨g, 0, none⟩ ∧ lo ≤ g ∧ g < hi ∧ RdF wr g n (fun j => if j < i then mkS k j else ds.getD j zDu)) ∧ Tn lo hi w wr

theorem MarkSt.step {w wr : World} {lo hi g n i : Nat} {k : Int} {ds : List Du} (h : MarkSt w wr lo hi (some ⟨g, 0, none⟩) n k ds i) (hn : 0 < n) : MarkSt w (set3 wr g i (mkS k i)) lo hi (some ⟨g, 0, none⟩) n k ds (i + 1) := by
  obtain ⟨g', e, h1, h2, h3⟩ := h.1 hn
  cases e
  refine ⟨fun _ => ⟨g, rfl, h1, h2, (h3.set i (mkS k i)).congr fun j hj => ?_⟩, h.2.set3 h1 h2 i _⟩
  by_cases e : j = i
  · subst e; simp
  · simp only [if_neg e]
    by_cases l : j < i
    · rw [if_pos l, if_pos (by omega)]
    · rw [if_neg l, if_neg (by omega)]

set_option maxRecDepth 100000 in
set_option maxHeartbeats 800000 in
theorem markDueS_any (A : Option Addr) (n cap lo hi : Nat) (k : Int) (ds : List Du) (w : World) (hn : ds.length = n) (hm : n ≤ 1048676) (hk0 : 0 ≤ k) (hk1 : k ≤ 1099511627776) (h : DV w lo hi A ds) :
    Calls Try.prog 104 #[.slice A n cap, .int .i64 k] w fun e w' => e = .returned (.int .i64 (k + 3 * n)) ∧ DV w' lo hi A (mkL k n) ∧ Tn lo hi w w' := by
  have Hn := Lib.hid hn
  clear hn
  have HS : Hid (MarkSt w w lo hi A n k ds 0) := ⟨fun hp => by
    obtain ⟨g, e, h1, h2, h3⟩ := h (by have := Hn.out; omega)
    exact ⟨g, e, h1, h2, fun i hi => by simpa using h3 i (by have := Hn.out; omega)⟩, Tn.of_below (Below.refl _ _)⟩
  clear h
  go_enter Try.func104, Try.ntmps104
  go_wp2
  go_loopw [1, 5] (fun t i wr => ∃ j : Nat, j ≤ n ∧ i = .int .i64 j ∧ t = .int .i64 (k + 3 * j) ∧ MarkSt w wr lo hi A n k ds j) (fun _ i _ => n - (intOf i).toNat)
  case atStart => exact ⟨0, Nat.zero_le _, rfl, by simp, HS.out⟩
  case round =>
    obtain ⟨j, hj, rfl, rfl, hr⟩ := hrel
    clear HS
    by_cases hlt : j < n
    · obtain ⟨g, rfl, h1, h2, h3⟩ := hr.1 (by omega)
      obtain ⟨c0, c1, c2, c4⟩ := h3 j hlt
      simp only [Nat.lt_irrefl, if_false] at c0 c1 c2
      generalize ds.getD j zDu = s at c0 c1 c2
      have Hr := Lib.hid (hr.step (by omega))
      clear hr h3
      go_wp2
      go_roundw
      case rel => exact ⟨j + 1, by omega, by go_num, by go_num, Hr.out⟩
      case measure => simp [intOf]; omega
    · have Hr := Lib.hid hr
      clear hr
      obtain rfl : j = n := by omega
      go_wp2
      go_ret
      refine ⟨rfl, fun hp => ?_, Hr.out.2⟩
      rw [mkL_len] at hp
      obtain ⟨g, e, h1, h2, h3⟩ := Hr.out.1 hp
      refine ⟨g, e, h1, h2, fun i hi => ?_⟩
      rw [mkL_len] at hi
      have := h3 i hi
      simp only [if_pos hi] at this
      rw [mkL_at _ _ _ hi]
      exact this

set_option maxRecDepth 100000 in
set_option maxHeartbeats 800000 in
theorem heldDueS_any (A : Option Addr) (n cap lo hi : Nat) (k : Int) (w : World) (hm : n ≤ 1048676) (hk0 : 0 ≤ k) (hk1 : k ≤ 1099511627776) (h : DV w lo hi A (mkL k n)) :
    Calls Try.prog 106 #[.slice A n cap, .int .i64 k] w fun e w' => e = .returned (.int .i64 (k + 3 * n)) ∧ w = w' := by
  have HS := Lib.hid h
  clear h
  go_enter Try.func106, Try.ntmps106
  go_wp2
  go_loop [1, 5] (fun t i => ∃ j : Nat, j ≤ n ∧ i = .int .i64 j ∧ t = .int .i64 (k + 3 * j)) (fun _ i => n - (intOf i).toNat)
  case atStart => exact ⟨0, Nat.zero_le _, rfl, by simp⟩
  case round =>
    obtain ⟨j, hj, rfl, rfl⟩ := hrel
    by_cases hlt : j < n
    · obtain ⟨g, rfl, h1, h2, h3⟩ := HS.out (by rw [mkL_len]; omega)
      obtain ⟨c0, c1, c2, _⟩ := h3 j (by rw [mkL_len]; exact hlt)
      rw [mkL_at _ _ _ hlt] at c0 c1 c2
      simp only [mkS] at c0 c1 c2
      clear h3
      go_wp2
      go_round
      case rel => exact ⟨j + 1, by omega, by go_num, by go_num⟩
      case measure => simp [intOf]; omega
    · obtain rfl : j = n := by omega
      go_wp2
      go_ret
      exact ⟨rfl, rfl⟩

set_option maxRecDepth 100000 in
set_option maxHeartbeats 400000 in
theorem markHeap_any (A : Option Addr) (n cap lo hi : Nat) (k q : Int) (ds : List Du) (w : World) (hn : ds.length = n) (hm : n ≤ 1048676) (hk0 : 0 ≤ k) (hk1 : k ≤ 1099511627776) (h : DV w lo hi A ds) (hs : hi ≤ w.heap.size) :
    Calls Try.prog 71 #[.agg #[.slice A n cap, .int .i64 q], .int .i64 k] w fun e w' => e = .returned (.int .i64 (k + 3 * n)) ∧ DV w' lo hi A (mkL k n) ∧ Tn lo hi w w' := by
  have Hn := Lib.hid hn
  clear hn
  have H := Lib.hid h
  clear h
  go_enter Try.func71, Try.ntmps71
  go_wp2_with fail
  refine (markDueS_any A n cap lo hi k ds _ Hn.out hm hk0 hk1 (H.out.below (bel_alloc _ _) hs)).mono ?_
  rintro e w1 ⟨rfl, hv, ht⟩
  have Hv := Lib.hid hv
  have Ht := Lib.hid ht
  clear hv ht
  go_wp2
  go_ret
  exact ⟨rfl, Hv.out, (Tn.of_below (bel_alloc _ _)).trans Ht.out⟩

set_option maxRecDepth 100000 in
set_option maxHeartbeats 400000 in
theorem heldHeap_any (A : Option Addr) (n cap lo hi : Nat) (k q : Int) (w : World) (hm : n ≤ 1048676) (hk0 : 0 ≤ k) (hk1 : k ≤ 1099511627776) (h : DV w lo hi A (mkL k n)) (hs : hi ≤ w.heap.size) :
    Calls Try.prog 74 #[.agg #[.slice A n cap, .int .i64 q], .int .i64 k] w fun e w' => e = .returned (.int .i64 (k + 3 * n)) ∧ Below w.heap.size w w' := by
  have H := Lib.hid h
  clear h
  have hk2 : 0 ≤ k + 3 * (n : Int) := by omega
  go_enter Try.func74, Try.ntmps74
  go_wp2_with fail
  refine (heldDueS_any A n cap lo hi k _ hm hk0 hk1 (H.out.below (bel_alloc _ _) hs)).mono ?_
  rintro e w1 ⟨rfl, rfl⟩
  go_wp2
  go_ret
  exact ⟨rfl, bel_alloc _ _⟩
end Go.Proofs.Ytehdbdolhkflcaa.Hp

namespace Go.Proofs.Ytehdbdolhkflcaa.Hp
open Go.RowKit Go.Deep Base

def RI (w : World) (g : Nat) (zs : List Int) : Prop := ∀ i, i < zs.length → w.cell? ⟨g, i, none⟩ = some (.int .i64 (zs.getD i 0)) ∧ ∀ j, w.frozen? ⟨g, j, none⟩ = false
def IV (w : World) (lo hi : Nat) (A : Option Addr) (zs : List Int) : Prop := 0 < zs.length → ∃ g, A = some ⟨g, 0, none⟩ ∧ lo ≤ g ∧ g < hi ∧ RI w g zs
/-- A new row of integers comes back. -/
def NewI (w : World) (zs : List Int) (e : Ending) (w' : World) : Prop := ∃ A cap, e = .returned (.slice A zs.length cap) ∧ IV w' w.heap.size w'.heap.size A zs ∧ Below w.heap.size w w'

theorem RI.of_block {w w' : World} {g : Nat} {zs : List Int} (h : RI w g zs) (e : w'.heap[g]? = w.heap[g]?) : RI w' g zs := fun i hi =>
  ⟨(World.cell?_of_block e).trans (h i hi).1, fun j => (World.frozen?_of_block e).trans ((h i hi).2 j)⟩
theorem IV.of_block {w w' : World} {lo hi : Nat} {A : Option Addr} {zs : List Int} (h : IV w lo hi A zs) (e : ∀ g, lo ≤ g → g < hi → w'.heap[g]? = w.heap[g]?) : IV w' lo hi A zs := by
  intro hp
  obtain ⟨g, rfl, h1, h2, h3⟩ := h hp
  exact ⟨g, rfl, h1, h2, h3.of_block (e g h1 h2)⟩
theorem IV.wide {w : World} {lo hi lo' hi' : Nat} {A : Option Addr} {zs : List Int} (h : IV w lo hi A zs) (h1 : lo' ≤ lo) (h2 : hi ≤ hi') : IV w lo' hi' A zs := by
  intro hp
  obtain ⟨g, rfl, h1', h2', h3⟩ := h hp
  exact ⟨g, rfl, by omega, by omega, h3⟩
theorem IV.below {w w' : World} {lo hi B : Nat} {A : Option Addr} {zs : List Int} (h : IV w lo hi A zs) (hb : Below B w w') (hB : hi ≤ B) : IV w' lo hi A zs :=
  h.of_block fun g _ h2 => hb.block g (by omega)
theorem IV.turns {w w' : World} {lo hi l h : Nat} {A : Option Addr} {zs : List Int} (s : IV w lo hi A zs) (t : Tn l h w w') (hd : hi ≤ l ∨ h ≤ lo) (hs : hi ≤ w.heap.size) : IV w' lo hi A zs :=
  s.of_block fun g _ h2 => t.block g (by omega) (by omega)
theorem IV.ints {w : World} {lo hi : Nat} {A : Option Addr} {zs : List Int} (h : IV w lo hi A zs) : Ints w A zs := by
  intro hp
  obtain ⟨g, rfl, _, _, h3⟩ := h hp
  exact ⟨g, 0, rfl, fun i hi => by rw [Nat.zero_add]; exact (h3 i hi).1⟩
theorem IV.nil (w : World) (lo hi : Nat) (A : Option Addr) : IV w lo hi A [] := fun h => absurd h (by simp)
theorem iv_owns {w : World} {base n cap : Nat} {e : TypeId} {A : Option Addr} {zs : List Int} (h : w.ownsRow base e 1 (.slice A n cap) n (zs.map (Value.int .i64))) : IV w base w.heap.size A zs := by
  intro hp
  have hl := h.1
  simp at hl
  rcases h.2 with ⟨hv, hn⟩ | ⟨g, cap', cur, hv, hb, hg, hfr⟩
  · omega
  · injection hv with hA _ _
    subst hA
    have hc : w.ownsRow base e 1 (.slice (some ⟨g, 0, none⟩) n cap) n (zs.map (Value.int .i64)) := h
    refine ⟨g, rfl, hb, (h.lt g rfl).2, fun i hi => ⟨?_, fun j => ?_⟩⟩
    · rw [hc.cellAt i (by omega)]
      simp [hi]
    · simp [World.frozen?, hg]

set_option maxRecDepth 100000 in
set_option maxHeartbeats 400000 in
theorem eqInts_same (A1 A2 : Option Addr) (n c1 c2 : Nat) (zs : List Int) (w : World) (hn : zs.length = n) (hm : n ≤ 1048576) (h1 : Ints w A1 zs) (h2 : Ints w A2 zs) :
    Calls Try.prog 69 #[.slice A1 n c1, .slice A2 n c2] w fun e w' => e = .returned (.bool true) ∧ Below w.heap.size w w' := by
  have Hn := Lib.hid hn
  clear hn
  have H1 := Lib.hid h1
  have H2 := Lib.hid h2
  clear h1 h2
  go_enter Try.func69, Try.ntmps69
  go_wp2
  go_loopw [5] (fun i wr => ∃ k : Nat, k ≤ n ∧ i = .int .i64 k ∧ Below w.heap.size w wr) (fun i _ => n - (intOf i).toNat)
  case atStart => exact ⟨0, Nat.zero_le _, rfl, Below.refl _ _⟩
  case round =>
    obtain ⟨k, hk, rfl, hr⟩ := hrel
    by_cases hlt : k < n
    · obtain ⟨b, off, rfl, hc⟩ := H1.out.below hr (by have := Hn.out; omega)
      have hc1 := hc k (by have := Hn.out; omega)
      clear hc
      obtain ⟨b', off', rfl, hc⟩ := H2.out.below hr (by have := Hn.out; omega)
      have hc2 := hc k (by have := Hn.out; omega)
      clear hc
      generalize zs.getD k 0 = z at hc1 hc2
      go_wp2
      go_region
      all_goals
        go_wp2
        go_roundw
        case rel => exact ⟨k + 1, by omega, by go_num, by repeat (first | exact hr | apply Below.drew)⟩
        case measure => simp [intOf]; omega
    · go_wp2
      go_ret
      exact ⟨rfl, hr⟩

def mkI (k : Int) (n : Nat) : List Int := (List.range n).map fun (i : Nat) => k + (i : Int)
theorem mkI_len (k : Int) (n : Nat) : (mkI k n).length = n := by simp [mkI]
theorem mkI_at (k : Int) (n i : Nat) (h : i < n) : (mkI k n).getD i 0 = k + (i : Int) := by simp [mkI, h]

def MarkIt (w wr : World) (lo hi : Nat) (A : Option Addr) (n : Nat) (k : Int) (zs : List Int) (i : Nat) : Prop :=
  (0 < n → ∃ g, A = some ⟨g, 0, none⟩ ∧ lo ≤ g ∧ g < hi ∧ ∀ j, j < n → wr.cell? ⟨g, j, none⟩ = some (.int .i64 (if j < i then k + (j : Int) else zs.getD j 0)) ∧ ∀ o, wr.frozen? ⟨g, o, none⟩ = false) ∧ Tn lo hi w wr

theorem MarkIt.step {w wr : World} {lo hi g n i : Nat} {k : Int} {zs : List Int} (h : MarkIt w wr lo hi (some ⟨g, 0, none⟩) n k zs i) (hn : 0 < n) : MarkIt w (wr.setCell ⟨g, i, none⟩ (.int .i64 (k + (i : Int)))) lo hi (some ⟨g, 0, none⟩) n k zs (i + 1) := by
  obtain ⟨g', e, h1, h2, h3⟩ := h.1 hn
  cases e
  refine ⟨fun _ => ⟨g, rfl, h1, h2, fun j hj => ⟨?_, fun o => by rw [World.frozen?_setCell]; exact (h3 j hj).2 o⟩⟩, h.2.setCell h1 h2 _⟩
  rw [cell_set (by rw [(h3 j hj).1]; rfl)]
  by_cases e : j = i
  · subst e; simp
  · rw [if_neg e, (h3 j hj).1]
    by_cases l : j < i
    · rw [if_pos l, if_pos (by omega)]
    · rw [if_neg l, if_neg (by omega)]

set_option maxRecDepth 100000 in
set_option maxHeartbeats 800000 in
theorem markInts_any (A : Option Addr) (n cap lo hi : Nat) (k : Int) (zs : List Int) (w : World) (hn : zs.length = n) (hm : n ≤ 1048576) (hk0 : 0 ≤ k) (hk1 : k ≤ 1099511627776) (h : IV w lo hi A zs) :
    Calls Try.prog 72 #[.slice A n cap, .int .i64 k] w fun e w' => e = .returned (.int .i64 (k + n)) ∧ IV w' lo hi A (mkI k n) ∧ Tn lo hi w w' := by
  have Hn := Lib.hid hn
  clear hn
  have HS : Hid (MarkIt w w lo hi A n k zs 0) := ⟨fun hp => by
    obtain ⟨g, e, h1, h2, h3⟩ := h (by have := Hn.out; omega)
    exact ⟨g, e, h1, h2, fun i hi => by simpa using h3 i (by have := Hn.out; omega)⟩, Tn.of_below (Below.refl _ _)⟩
  clear h
  go_enter Try.func72, Try.ntmps72
  go_wp2
  go_loopw [1, 5] (fun t i wr => ∃ j : Nat, j ≤ n ∧ i = .int .i64 j ∧ t = .int .i64 (k + j) ∧ MarkIt w wr lo hi A n k zs j) (fun _ i _ => n - (intOf i).toNat)
  case atStart => exact ⟨0, Nat.zero_le _, rfl, by simp, HS.out⟩
  case round =>
    obtain ⟨j, hj, rfl, rfl, hr⟩ := hrel
    clear HS
    by_cases hlt : j < n
    · obtain ⟨g, rfl, h1, h2, h3⟩ := hr.1 (by omega)
      obtain ⟨c0, c4⟩ := h3 j hlt
      simp only [Nat.lt_irrefl, if_false] at c0
      generalize zs.getD j 0 = s at c0
      have Hr := Lib.hid (hr.step (by omega))
      clear hr h3
      go_wp2
      go_roundw
      case rel => exact ⟨j + 1, by omega, by go_num, by go_num, Hr.out⟩
      case measure => simp [intOf]; omega
    · have Hr := Lib.hid hr
      clear hr
      obtain rfl : j = n := by omega
      go_wp2
      go_ret
      refine ⟨rfl, fun hp => ?_, Hr.out.2⟩
      rw [mkI_len] at hp
      obtain ⟨g, e, h1, h2, h3⟩ := Hr.out.1 hp
      refine ⟨g, e, h1, h2, fun i hi => ?_⟩
      rw [mkI_len] at hi
      have := h3 i hi
      simp only [if_pos hi] at this
      rw [mkI_at _ _ _ hi]
      exact this

set_option maxRecDepth 100000 in
set_option maxHeartbeats 800000 in
theorem heldInts_any (A : Option Addr) (n cap lo hi : Nat) (k : Int) (w : World) (hm : n ≤ 1048576) (hk0 : 0 ≤ k) (hk1 : k ≤ 1099511627776) (h : IV w lo hi A (mkI k n)) :
    Calls Try.prog 75 #[.slice A n cap, .int .i64 k] w fun e w' => e = .returned (.int .i64 (k + n)) ∧ w = w' := by
  have HS := Lib.hid h
  clear h
  go_enter Try.func75, Try.ntmps75
  go_wp2
  go_loop [1, 5] (fun t i => ∃ j : Nat, j ≤ n ∧ i = .int .i64 j ∧ t = .int .i64 (k + j)) (fun _ i => n - (intOf i).toNat)
  case atStart => exact ⟨0, Nat.zero_le _, rfl, by simp⟩
  case round =>
    obtain ⟨j, hj, rfl, rfl⟩ := hrel
    by_cases hlt : j < n
    · obtain ⟨g, rfl, h1, h2, h3⟩ := HS.out (by rw [mkI_len]; omega)
      obtain ⟨c0, _⟩ := h3 j (by rw [mkI_len]; exact hlt)
      rw [mkI_at _ _ _ hlt] at c0
      clear h3
      go_wp2
      go_round
      case rel => exact ⟨j + 1, by omega, by go_num, by go_num⟩
      case measure => simp [intOf]; omega
    · obtain rfl : j = n := by omega
      go_wp2
      go_ret
      exact ⟨rfl, rfl⟩
end Go.Proofs.Ytehdbdolhkflcaa.Hp

namespace Go.Proofs.Ytehdbdolhkflcaa.Hp
open Go.RowKit Go.Deep Base

/-- A boxed item. -/
def Bk3 (w : World) (g : Nat) (a b c : Int) : Prop := w.heap[g]? = some (.cells #[.int .i64 a, .int .i64 b, .int .i64 c] 108 (0, 0))
theorem Bk3.cells {w : World} {g : Nat} {a b c : Int} (h : Bk3 w g a b c) : w.cell? ⟨g, 0, none⟩ = some (.int .i64 a) ∧ w.cell? ⟨g, 1, none⟩ = some (.int .i64 b) ∧ w.cell? ⟨g, 2, none⟩ = some (.int .i64 c) ∧ ∀ j, w.frozen? ⟨g, j, none⟩ = false := by
  have hc : ∀ o, w.cell? ⟨g, o, none⟩ = #[.int .i64 a, .int .i64 b, .int .i64 c][o]? := fun o => cell_of_row _ _ o _ _ (0, 0) h
  refine ⟨?_, ?_, ?_, fun j => by unfold Bk3 at h; simp [World.frozen?, h]⟩ <;> (rw [hc]; rfl)
theorem Bk3.lt {w : World} {g : Nat} {a b c : Int} (h : Bk3 w g a b c) : g < w.heap.size := (Array.getElem?_eq_some_iff.1 h).1
theorem Bk3.below {w w' : World} {g : Nat} {a b c : Int} (h : Bk3 w g a b c) (hb : Below w.heap.size w w') : Bk3 w' g a b c := (hb.block g h.lt).trans h

/-- NextDue's two answers. -/
def nextOk (ds : List Du) (q : Int) : Bool := okH ds q && decide (0 < ds.length)
def nextD (ds : List Du) (q : Int) : Du := if nextOk ds q = true then ds.getD 0 zDu else zDu

def NextEnd (w : World) (ds : List Du) (q : Int) (e : Ending) (w' : World) : Prop :=
  e = .returned (.tuple #[.agg #[.int .i64 (nextD ds q).at, .int .i64 (nextD ds q).seq, .int .i64 (nextD ds q).id], .bool (nextOk ds q)]) ∧ Below w.heap.size w w'

theorem next_no {ds : List Du} {q : Int} (h : nextOk ds q = false) : nextD ds q = zDu := by unfold nextD; rw [if_neg (by rw [h]; simp)]
theorem next_yes {ds : List Du} {q : Int} (h : nextOk ds q = true) : nextD ds q = ds.getD 0 zDu := by unfold nextD; rw [if_pos h]

set_option maxRecDepth 100000 in
set_option maxHeartbeats 1000000 in
theorem specNext_any (A : Option Addr) (n cap lo hi : Nat) (ds : List Du) (q : Int) (w : World) (hn : ds.length = n) (hm : n ≤ 1048576) (h : DV w lo hi A ds) (hs : hi ≤ w.heap.size) :
    Calls Try.prog 85 #[.agg #[.slice A n cap, .int .i64 q]] w (NextEnd w ds q) := by
  have Hn := Lib.hid hn
  have HI := Lib.hid h
  clear hn h
  go_enter Try.func85, Try.ntmps85
  go_wp2_with fail
  have hB0 : Below w.heap.size w ((w.alloc (.cells #[.slice A n cap, .int .i64 q] 31)).alloc (.cells #[.int .i64 0, .int .i64 0, .int .i64 0] 108)) := ((Below.refl _ _).alloc (Nat.le_refl _) _).alloc (by simp) _
  refine (specHeapOk_any A n cap lo hi ds q _ Hn.out hm (HI.out.below hB0 hs) (by simp; omega)).mono ?_
  rintro e w1 ⟨rfl, b1⟩
  have X1 : Hid (Blk2 w1 w.heap.size (.slice A n cap) (.int .i64 q)) := Blk2.below (Blk2.alloc (heap_alloc_new w _) _) b1
  have R1 : Hid (Bk3 w1 (w.heap.size + 1) 0 0 0) := by
    have h := heap_alloc_new (w.alloc (.cells #[.slice A n cap, .int .i64 q] 31)) (.cells #[.int .i64 0, .int .i64 0, .int .i64 0] 108)
    rw [World.size_alloc] at h
    exact (b1.block _ (by simp)).trans h
  have B1 := Lib.hid (bel_trans hB0 b1)
  clear b1 hB0
  obtain ⟨x0, x1, xf⟩ := X1.out.cells
  obtain ⟨r0, r1, r2, rf⟩ := R1.out.cells
  have zr : w.heap.size + 1 < w1.heap.size := R1.out.lt
  cases hok : okH ds q
  · have Ho : Hid (nextOk ds q = false) := by show nextOk ds q = false; unfold nextOk; rw [hok]; rfl
    clear hok
    go_wp2
    refine bodyPost_ret (v := .tuple #[.agg #[.int .i64 0, .int .i64 0, .int .i64 0], .bool false]) (by simp [results, Try.results85, go_sem, r0, r1, r2]) rfl ⟨by rw [next_no Ho.out, Ho.out]; rfl, ?_⟩
    iterate 3 refine Below.setCell ?_ (by show w.heap.size ≤ w.heap.size + 1; omega) _
    exact B1.out
  by_cases h0 : n = 0
  · have Ho : Hid (nextOk ds q = false) := by show nextOk ds q = false; unfold nextOk; rw [Hn.out, h0]; simp
    subst h0
    clear hok
    go_wp2
    refine bodyPost_ret (v := .tuple #[.agg #[.int .i64 0, .int .i64 0, .int .i64 0], .bool false]) (by simp [results, Try.results85, go_sem, r0, r1, r2]) rfl ⟨by rw [next_no Ho.out, Ho.out]; rfl, ?_⟩
    iterate 3 refine Below.setCell ?_ (by show w.heap.size ≤ w.heap.size + 1; omega) _
    exact B1.out
  have Ho : Hid (nextOk ds q = true) := by show nextOk ds q = true; unfold nextOk; rw [hok, Hn.out]; simp; omega
  clear hok
  obtain ⟨g, rfl, hg1, hg2, hrd⟩ := (HI.out.below B1.out hs) (by have := Hn.out; omega)
  obtain ⟨c0, c1, c2, _⟩ := hrd 0 (by have := Hn.out; omega)
  obtain ⟨dat, dseq, did, hd⟩ : ∃ a b c, ds.getD 0 zDu = ⟨a, b, c⟩ := ⟨_, _, _, rfl⟩
  rw [hd] at c0 c1 c2
  dsimp only at c0 c1 c2
  simp only [Nat.zero_mul, Nat.zero_add] at c0 c1 c2
  have Hd := Lib.hid hd
  clear hd hrd
  have hn0 : (0 : Int) < (n : Int) := by omega
  have hn1 : 0 < n := by omega
  have hnb : ((n : Int) == 0) = false := by simp; omega
  go_wp2
  refine bodyPost_ret (v := .tuple #[.agg #[.int .i64 dat, .int .i64 dseq, .int .i64 did], .bool true]) (by simp [results, Try.results85, go_sem, r0, r1, r2]) rfl ⟨by rw [next_yes Ho.out, Ho.out, Hd.out], ?_⟩
  iterate 3 refine Below.setCell ?_ (by show w.heap.size ≤ w.heap.size + 1; omega) _
  exact B1.out
end Go.Proofs.Ytehdbdolhkflcaa.Hp

namespace Go.Proofs.Ytehdbdolhkflcaa.Hp
open Go.RowKit Go.Deep Base

def fstD (ds : List Du) : Du := ds.getD 0 zDu

set_option maxRecDepth 100000 in
set_option maxHeartbeats 1000000 in
theorem first_any (b : Nat) (A : Option Addr) (n cap lo hi : Nat) (ds : List Du) (w : World) (hn : ds.length = n) (ht : Tr w b A n cap) (h : DV w lo hi A ds) (hs : hi ≤ w.heap.size) :
    Calls Try.prog 114 #[.pointer (some ⟨b, 0, none⟩)] w fun e w' => e = .returned (.agg #[.int .i64 (fstD ds).at, .int .i64 (fstD ds).seq, .int .i64 (fstD ds).id]) ∧ Below w.heap.size w w' := by
  have Hn := Lib.hid hn
  have HI := Lib.hid h
  have hb := ht.lt
  obtain ⟨t0, t1, _⟩ := ht.cells
  clear hn h ht
  have HB : Hid (∀ o o', Below w.heap.size w ((w.alloc o).alloc o')) := fun o o' => ((Below.refl _ _).alloc (Nat.le_refl _) _).alloc (by simp) _
  by_cases h0 : n = 0
  · have Hf : Hid (fstD ds = zDu) := by show fstD ds = zDu; have h1 : ds = [] := List.eq_nil_of_length_eq_zero (by have := Hn.out; omega); rw [h1]; rfl
    subst h0
    go_enter Try.func114, Try.ntmps114
    go_wp2
    refine bodyPost_ret (v := .agg #[.int .i64 0, .int .i64 0, .int .i64 0]) (by simp [results, Try.results114, go_sem]) rfl ⟨by rw [Hf.out]; rfl, ?_⟩
    exact HB.out _ _
  obtain ⟨g, rfl, hg1, hg2, hrd⟩ := HI.out (by have := Hn.out; omega)
  obtain ⟨c0, c1, c2, _⟩ := hrd 0 (by have := Hn.out; omega)
  obtain ⟨dat, dseq, did, hd⟩ : ∃ a b c, ds.getD 0 zDu = ⟨a, b, c⟩ := ⟨_, _, _, rfl⟩
  rw [hd] at c0 c1 c2
  dsimp only at c0 c1 c2
  simp only [Nat.zero_mul, Nat.zero_add] at c0 c1 c2
  have Hd : Hid (fstD ds = ⟨dat, dseq, did⟩) := hd
  clear hd hrd
  have hgl : g < w.heap.size := by omega
  have hn0 : (0 : Int) < (n : Int) := by omega
  have hnb : ((n : Int) == 0) = false := by simp; omega
  go_enter Try.func114, Try.ntmps114
  go_wp2
  refine bodyPost_ret (v := .agg #[.int .i64 dat, .int .i64 dseq, .int .i64 did]) (by simp [results, Try.results114, go_sem]) rfl ⟨by rw [Hd.out], ?_⟩
  exact HB.out _ _

set_option maxRecDepth 100000 in
set_option maxHeartbeats 1000000 in
theorem implNext_any (A : Option Addr) (n cap lo hi : Nat) (ds : List Du) (q : Int) (w : World) (hn : ds.length = n) (hm : n ≤ 1048576) (h : DV w lo hi A ds) (hs : hi ≤ w.heap.size) :
    Calls Try.prog 87 #[.agg #[.slice A n cap, .int .i64 q]] w (NextEnd w ds q) := by
  have Hn := Lib.hid hn
  have HI := Lib.hid h
  clear hn h
  go_enter Try.func87, Try.ntmps87
  go_wp2_with fail
  have hB0 : Below w.heap.size w ((w.alloc (.cells #[.slice A n cap, .int .i64 q] 31)).alloc (.cells #[.int .i64 0, .int .i64 0, .int .i64 0] 108)) := ((Below.refl _ _).alloc (Nat.le_refl _) _).alloc (by simp) _
  refine (treeOf_any A n cap lo hi ds q _ Hn.out hm (HI.out.below hB0 hs) (by simp; omega)).mono ?_
  rintro e w1 ⟨A1, c1, rfl, v1, b1⟩
  have R1 : Hid (Bk3 w1 (w.heap.size + 1) 0 0 0) := by
    have h := heap_alloc_new (w.alloc (.cells #[.slice A n cap, .int .i64 q] 31)) (.cells #[.int .i64 0, .int .i64 0, .int .i64 0] 108)
    rw [World.size_alloc] at h
    exact (b1.block _ (by simp)).trans h
  have B1 := Lib.hid (bel_trans hB0 b1)
  have V1 := Lib.hid v1
  simp only [World.size_alloc] at V1
  clear b1 hB0 v1
  obtain ⟨r0, r1, r2, rf⟩ := R1.out.cells
  have zr : w.heap.size + 1 < w1.heap.size := R1.out.lt
  cases hok : okH ds q
  · have Ho : Hid (nextOk ds q = false) := by show nextOk ds q = false; unfold nextOk; rw [hok]; rfl
    clear hok
    go_wp2
    refine bodyPost_ret (v := .tuple #[.agg #[.int .i64 0, .int .i64 0, .int .i64 0], .bool false]) (by simp [results, Try.results87, go_sem, r0, r1, r2, zr]) rfl ⟨by rw [next_no Ho.out, Ho.out]; rfl, ?_⟩
    refine Below.alloc ?_ (by simp [World.setCell]; omega) _
    iterate 3 refine Below.setCell ?_ (by show w.heap.size ≤ w.heap.size + 1; omega) _
    exact B1.out
  have Hv := Lib.hid (okH_val hok)
  have Hok := Lib.hid hok
  clear hok
  go_wp2_with fail
  obtain ⟨W3, hW3⟩ : ∃ W3, w1.alloc (.cells #[.slice A1 n c1, .func (.func 129) #[] #[]] 143) = W3 := ⟨_, rfl⟩
  have T3 : Hid (Tr W3 w1.heap.size A1 n c1) := by rw [← hW3]; exact heap_alloc_new w1 _
  have V3 : Hid (DV W3 (w.heap.size + 1 + 1) w1.heap.size A1 ds) := by rw [← hW3]; exact V1.out.below (bel_alloc w1 _) (Nat.le_refl _)
  have B3 : Hid (Below w.heap.size w W3) := by rw [← hW3]; exact bel_trans B1.out (bel_alloc w1 _)
  have z3 : w1.heap.size < W3.heap.size := by rw [← hW3]; simp
  have R3 : Hid (Bk3 W3 (w.heap.size + 1) 0 0 0) := by rw [← hW3]; exact R1.out.below (bel_alloc w1 _)
  rw [hW3]
  clear hW3 V1 B1 R1 r0 r1 r2 rf
  refine (first_any w1.heap.size A1 n c1 _ _ ds W3 Hn.out T3.out V3.out (by omega)).mono ?_
  rintro e w4 ⟨rfl, b4⟩
  have B4 := Lib.hid (bel_trans B3.out b4)
  have R4 := Lib.hid (R3.out.below b4)
  clear b4
  obtain ⟨dat, dseq, did, hd⟩ : ∃ a b c, fstD ds = ⟨a, b, c⟩ := ⟨_, _, _, rfl⟩
  rw [hd]
  have Hd := Lib.hid hd
  clear hd
  dsimp only
  go_wp2_with fail
  obtain ⟨W5, hW5⟩ : ∃ W5, w4.alloc (.cells #[.int .i64 dat, .int .i64 dseq, .int .i64 did] 108) = W5 := ⟨_, rfl⟩
  have D5 : Hid (Bk3 W5 w4.heap.size dat dseq did) := by rw [← hW5]; exact heap_alloc_new w4 _
  have R5 : Hid (Bk3 W5 (w.heap.size + 1) 0 0 0) := by rw [← hW5]; exact R4.out.below (bel_alloc w4 _)
  have B5 : Hid (Below w.heap.size w W5) := by rw [← hW5]; exact bel_trans B4.out (bel_alloc w4 _)
  have z4 : w.heap.size + 1 < w4.heap.size := R4.out.lt
  rw [hW5]
  clear hW5 R4 B4
  obtain ⟨d0, d1, d2, df⟩ := D5.out.cells
  obtain ⟨r0, r1, r2, rf⟩ := R5.out.cells
  have hne : w4.heap.size ≠ w.heap.size + 1 := by omega
  by_cases h0 : n = 0
  · have hz : fstD ds = zDu := by have h1 : ds = [] := List.eq_nil_of_length_eq_zero (by have := Hn.out; omega); rw [h1]; rfl
    have Ho : Hid (nextOk ds q = false) := by show nextOk ds q = false; unfold nextOk; rw [Hn.out, h0]; simp
    obtain ⟨rfl, rfl, rfl⟩ : dat = 0 ∧ dseq = 0 ∧ did = 0 := by have h2 := Hd.out; rw [hz] at h2; injection h2 with a b c; exact ⟨a.symm, b.symm, c.symm⟩
    clear hz
    go_region
    all_goals
      go_wp2
      refine bodyPost_ret (v := .tuple #[.agg #[.int .i64 0, .int .i64 0, .int .i64 0], .bool false]) (by simp [results, Try.results87, go_sem, r0, r1, r2]) rfl ⟨by rw [next_no Ho.out, Ho.out]; rfl, ?_⟩
      refine Below.drew ?_
      iterate 3 refine Below.setCell ?_ (by show w.heap.size ≤ w.heap.size + 1; omega) _
      exact B5.out
  · have Ho : Hid (nextOk ds q = true) := by show nextOk ds q = true; unfold nextOk; rw [Hok.out, Hn.out]; simp; omega
    have hid : (did == 0) = false := by
      have h1 := Hv.out.each 0 (by have := Hn.out; omega)
      have h2 : ds.getD 0 zDu = ⟨dat, dseq, did⟩ := Hd.out
      rw [h2] at h1
      unfold okD at h1
      simp only [Bool.and_eq_true, Tick.inB_iff] at h1
      have h3 := h1.2.1
      simp
      omega
    go_region
    all_goals
      go_wp2
      refine bodyPost_ret (v := .tuple #[.agg #[.int .i64 dat, .int .i64 dseq, .int .i64 did], .bool true]) (by simp [results, Try.results87, go_sem, r0, r1, r2]) rfl ⟨by rw [next_yes Ho.out, Ho.out]; exact congrArg _ (by rw [show ds.getD 0 zDu = ⟨dat, dseq, did⟩ from Hd.out]), ?_⟩
      refine Below.drew ?_
      iterate 3 refine Below.setCell ?_ (by show w.heap.size ≤ w.heap.size + 1; omega) _
      exact B5.out
end Go.Proofs.Ytehdbdolhkflcaa.Hp
