/- Slices of slices of integers: what the laws' helpers on them do. -/
import Derived.Test.YtbmfleakldhabaaDoorInts1
import Derived.Test.YtbmfleakldhabaaDoorIntN
import Derived.StillTailTactics
namespace Go.Proofs.YtbmfleakldhabaaDoor.Rw
open Go.RowKit Go.Deep Base

theorem Turns.wide {lo hi lo' hi' : Nat} {a w : World} (h : Turns lo hi a w) (h1 : lo' ≤ lo) (h2 : hi ≤ hi') : Turns lo' hi' a w := ⟨h.os, h.tape, h.output, h.size, fun k hk ho => h.block k hk (by omega)⟩

/-- A slice of slices of integers at A reads as zss. -/
def IntsS (w : World) (A : Option Addr) (zss : List (List Int)) : Prop :=
  0 < zss.length → ∃ b off, A = some ⟨b, off, none⟩ ∧ ∀ i, i < zss.length → ∃ Ai ci, w.cell? ⟨b, off + i, none⟩ = some (.slice Ai (zss.getD i []).length ci) ∧ Ints w Ai (zss.getD i [])
theorem IntsS.below {w w' : World} {A : Option Addr} {zss : List (List Int)} (h : IntsS w A zss) (hb : Below w.heap.size w w') : IntsS w' A zss := by
  intro hp
  obtain ⟨b, off, rfl, hc⟩ := h hp
  refine ⟨b, off, rfl, fun i hi => ?_⟩
  obtain ⟨Ai, ci, h1, h2⟩ := hc i hi
  exact ⟨Ai, ci, (hb.cell (World.block_lt_of_cell? _ _ h1)).trans h1, h2.below hb⟩

/-- The same of slices that a call has made: the outer row in block g, the inner ones behind it, each in a block of its own. -/
structure SS (w : World) (lo hi g : Nat) (B : Nat → Nat) (zss : List (List Int)) : Prop where
  row : ∀ i, i < zss.length → w.cell? ⟨g, i, none⟩ = some (.slice (some ⟨B i, 0, none⟩) (zss.getD i []).length (zss.getD i []).length)
  inner : ∀ i, i < zss.length → RI w (B i) (zss.getD i [])
  low : lo ≤ g
  high : g < hi
  bs : ∀ i, i < zss.length → g < B i ∧ B i < hi
  mono : ∀ i j, i < j → j < zss.length → B i < B j
theorem SS.of_block {w w' : World} {lo hi g : Nat} {B : Nat → Nat} {zss : List (List Int)} (h : SS w lo hi g B zss) (e : ∀ k, lo ≤ k → k < hi → w'.heap[k]? = w.heap[k]?) : SS w' lo hi g B zss :=
  ⟨fun i hi => (World.cell?_of_block (e g h.low h.high)).trans (h.row i hi), fun i hi => (h.inner i hi).of_block (e _ (by have := h.bs i hi; have := h.low; omega) (h.bs i hi).2), h.low, h.high, h.bs, h.mono⟩
theorem SS.below {w w' : World} {lo hi g C : Nat} {B : Nat → Nat} {zss : List (List Int)} (h : SS w lo hi g B zss) (hb : Below C w w') (hC : hi ≤ C) : SS w' lo hi g B zss := h.of_block fun k _ h2 => hb.block k (by omega)
theorem SS.wide {w : World} {lo hi lo' hi' g : Nat} {B : Nat → Nat} {zss : List (List Int)} (h : SS w lo hi g B zss) (h1 : lo' ≤ lo) (h2 : hi ≤ hi') : SS w lo' hi' g B zss :=
  ⟨h.row, h.inner, Nat.le_trans h1 h.low, Nat.lt_of_lt_of_le h.high h2, fun i hi => ⟨(h.bs i hi).1, Nat.lt_of_lt_of_le (h.bs i hi).2 h2⟩, h.mono⟩
/-- The same with less asked: the outer row in block g, the inner ones in blocks B i with room C i; one of three integers has no room to spare. -/
structure RS (w : World) (hi g : Nat) (B C : Nat → Nat) (zss : List (List Int)) : Prop where
  row : ∀ i, i < zss.length → w.cell? ⟨g, i, none⟩ = some (.slice (some ⟨B i, 0, none⟩) (zss.getD i []).length (C i))
  inner : ∀ i, i < zss.length → RI w (B i) (zss.getD i [])
  high : g < hi
  bs : ∀ i, i < zss.length → B i < hi
  room : ∀ i, i < zss.length → (zss.getD i []).length = 3 → C i = 3
theorem RS.below {w w' : World} {hi g K : Nat} {B C : Nat → Nat} {zss : List (List Int)} (h : RS w hi g B C zss) (hb : Below K w w') (hK : hi ≤ K) : RS w' hi g B C zss :=
  ⟨fun i hi => (World.cell?_of_block (hb.block g (by have := h.high; omega))).trans (h.row i hi), fun i hi => (h.inner i hi).of_block (hb.block _ (by have := h.bs i hi; omega)), h.high, h.bs, h.room⟩
theorem SS.rs {w : World} {lo hi g : Nat} {B : Nat → Nat} {zss : List (List Int)} (h : SS w lo hi g B zss) : RS w hi g B (fun i => (zss.getD i []).length) zss :=
  ⟨h.row, h.inner, h.high, fun i hi => (h.bs i hi).2, fun _ _ e => e⟩
theorem RI.ints {w : World} {g : Nat} {zs : List Int} (h : RI w g zs) : Ints w (some ⟨g, 0, none⟩) zs := fun _ => ⟨g, 0, rfl, fun i hi => by rw [Nat.zero_add]; exact (h i hi).1⟩

set_option maxHeartbeats 400000 in
theorem toIntS_new (A : Option Addr) (n cap : Nat) (zs : List Int) (w : World) (hn : zs.length = n) (hm : n ≤ 1048576) (h : Ints w A zs) :
    Calls Tryd.prog 46 #[.slice A n cap] w fun e w' => e = .returned (.slice (some ⟨w.heap.size, 0, none⟩) n n) ∧ RI w' w.heap.size zs ∧ Below w.heap.size w w' ∧ w.heap.size < w'.heap.size := by
  have hmk := run_make_row' (P := Tryd.prog) 29 3 (.int .i64 0) 8 Tryd.underlying29 infoInt rfl .i64 .i64 n (by omega) (by omega)
  have Hn := Lib.hid hn
  clear hn
  have HI := Lib.hid h
  clear h
  go_enter Tryd.func46, Tryd.ntmps46
  go_wp2
  clear hmk
  go_loopw [4] (fun i wr => ∃ k : Nat, k ≤ n ∧ i = .int .i64 k ∧ ToRow w wr n zs k) (fun i _ => n - (intOf i).toNat)
  case atStart => exact ⟨0, Nat.zero_le _, rfl, ToRow.start w n zs⟩
  case round =>
    obtain ⟨k, hk, rfl, hr⟩ := hrel
    by_cases hlt : k < n
    · obtain ⟨b, off, rfl, hc⟩ := HI.out.below hr.2 (by have := Hn.out; omega)
      have hck := hc k (by have := Hn.out; omega)
      clear hc
      have hz : wr.cell? ⟨w.heap.size, k, none⟩ = some (.int .i64 0) := by
        have := hr.1.cell hlt
        rw [if_neg (by omega)] at this
        exact this
      have hf : wr.frozen? ⟨w.heap.size, k, none⟩ = false := hr.1.frozen k
      have Hs := Lib.hid hr.step
      clear hr
      generalize zs.getD k 0 = z at hck Hs
      go_wp2
      go_roundw
      case rel => exact ⟨k + 1, by omega, by go_num, Hs.out⟩
      case measure => simp [intOf]; omega
    · have Hr := Lib.hid hr
      clear hr
      go_wp2
      go_ret
      refine ⟨rfl, fun i hi => ⟨?_, fun j => Hr.out.1.frozen j⟩, Hr.out.2, Hr.out.1.lt⟩
      have := Hr.out.1.cell (i := i) (by have := Hn.out; omega)
      rw [if_pos (by have := Hn.out; omega)] at this
      exact this

/-- How many integers there are. -/
def tot (zss : List (List Int)) : Nat := (zss.map List.length).sum
theorem tot_take_succ {zss : List (List Int)} {k : Nat} (h : k < zss.length) : tot (zss.take (k + 1)) = tot (zss.take k) + (zss.getD k []).length := by
  unfold tot
  rw [List.take_succ_eq_append_getElem h, List.map_append, List.sum_append]
  simp [List.getD_eq_getElem?_getD, h]
theorem le_sum : ∀ (l : List Nat) (x : Nat), x ∈ l → x ≤ l.sum
  | [], _, h => by cases h
  | a :: r, x, h => by
    rcases List.mem_cons.1 h with rfl | h
    · simp
    · have := le_sum r x h
      simp
      omega
theorem tot_le {zss : List (List Int)} {i : Nat} (h : i < zss.length) : (zss.getD i []).length ≤ tot zss := by
  unfold tot
  have h1 : (zss.getD i []).length ∈ zss.map List.length := List.mem_map.2 ⟨zss[i], List.getElem_mem h, by simp [List.getD_eq_getElem?_getD, h]⟩
  exact le_sum _ _ h1

theorem szIntS_any (A : Option Addr) (n cap : Nat) (left : Int) (w : World) (hn : n ≤ 9223372036854775807) (h0 : 0 ≤ left) (h1 : left ≤ 1048576) :
    Calls Tryd.prog 45 #[.slice A n cap, .int .i64 left] w fun e w' => e = .returned (.int .i64 (if left < n then -1 else left - n)) ∧ w = w' := by
  by_cases hl : left < n
  · have hl' : ¬ 0 ≤ left - n := by omega
    go_enter Tryd.func45, Tryd.ntmps45
    go_wp2
    go_ret
    exact ⟨ret_int (by simp), rfl⟩
  · go_enter Tryd.func45, Tryd.ntmps45
    go_wp2
    go_ret
    exact ⟨ret_int (by simp), rfl⟩

/-- What szIntSS tells. -/
def SzEnd (n : Nat) (zss : List (List Int)) (w : World) (e : Ending) (w' : World) : Prop :=
  ∃ r : Int, e = .returned (.int .i64 r) ∧ w = w' ∧ (r < 0 ∨ (0 ≤ r ∧ r + n + tot zss = 1048576))

set_option maxRecDepth 100000 in
set_option maxHeartbeats 800000 in
theorem szIntSS_any (A : Option Addr) (n cap : Nat) (zss : List (List Int)) (w : World) (hn : zss.length = n) (hm : n ≤ 9223372036854775807) (hi : ∀ i, i < n → (zss.getD i []).length ≤ 9223372036854775807) (h : IntsS w A zss) :
    Calls Tryd.prog 20 #[.slice A n cap, .int .i64 1048576] w (SzEnd n zss w) := by
  have Hn := Lib.hid hn
  have HI := Lib.hid h
  have Hi := Lib.hid hi
  clear hn h hi
  by_cases hl : (1048576 : Int) < n
  · have hl' : ¬ 0 ≤ (1048576 : Int) - n := by omega
    go_enter Tryd.func20, Tryd.ntmps20
    go_wp2
    go_ret
    exact ⟨-1, rfl, rfl, .inl (by omega)⟩
  have hl2 : ¬ (1048576 : Int) - n < 0 := by omega
  go_enter Tryd.func20, Tryd.ntmps20
  go_wp2
  go_loop [1, 5] (fun t i => ∃ (k : Nat) (r : Int), k ≤ n ∧ i = .int .i64 k ∧ t = .int .i64 r ∧ 0 ≤ r ∧ r + n + tot (zss.take k) = 1048576) (fun _ i => n - (intOf i).toNat)
  case atStart => exact ⟨0, _, Nat.zero_le _, rfl, rfl, by omega, by simp [tot]⟩
  case round =>
    obtain ⟨k, r, hk, rfl, rfl, hr0, hr⟩ := hrel
    have Hr := Lib.hid hr
    have hr1 : r ≤ 1048576 := by omega
    clear hr
    by_cases hlt : k < n
    · obtain ⟨b, off, rfl, hc⟩ := HI.out (by have := Hn.out; omega)
      obtain ⟨Ai, ci, h1, h2⟩ := hc k (by have := Hn.out; omega)
      have hlk := Hi.out k hlt
      have Ht := Lib.hid (tot_take_succ (zss := zss) (k := k) (by have := Hn.out; omega))
      obtain ⟨nk, hnk⟩ : ∃ nk, (zss.getD k []).length = nk := ⟨_, rfl⟩
      rw [hnk] at h1 hlk Ht
      clear hc h2 hnk
      have hk0 : (0 : Int) ≤ (k : Int) := by omega
      have hk1 : (k : Int) < (n : Int) := by omega
      go_wp2_with fail
      refine (szIntS_any Ai nk ci r _ hlk hr0 hr1).mono ?_
      rintro e w' ⟨rfl, rfl⟩
      by_cases hb : r < nk
      · rw [if_pos hb]
        go_wp2
        go_ret
        exact ⟨-1, rfl, rfl, .inl (by omega)⟩
      · rw [if_neg hb]
        have hb2 : ¬ r - nk < 0 := by omega
        go_wp2
        go_round
        case rel => exact ⟨k + 1, r - nk, by omega, by go_num, rfl, by omega, by rw [Ht.out]; have := Hr.out; omega⟩
        case measure => simp [intOf]; omega
    · obtain rfl : k = n := by omega
      go_wp2
      go_ret
      refine ⟨r, rfl, rfl, .inr ⟨hr0, ?_⟩⟩
      have h1 := Hr.out
      rw [List.take_of_length_le (by have := Hn.out; omega)] at h1
      exact h1

theorem infoIS : (Tryd.prog.info? 29).map (fun i => (i.zero, i.size, i.bytes)) = some (some (.slice none 0 0), 1, 24) := by kernel_rfl

structure ToSS (w wr : World) (n k : Nat) (B : Nat → Nat) (zss : List (List Int)) : Prop where
  row : wr.rowIs w.heap.size 29 n (fun j => if j < k then .slice (some ⟨B j, 0, none⟩) (zss.getD j []).length (zss.getD j []).length else .slice none 0 0)
  inner : ∀ i, i < k → RI wr (B i) (zss.getD i [])
  bs : ∀ i, i < k → w.heap.size < B i ∧ B i < wr.heap.size
  mono : ∀ i j, i < j → j < k → B i < B j
  old : Below w.heap.size w wr

theorem ToSS.start (w : World) (n : Nat) (zss : List (List Int)) : ToSS w (w.alloc (.cells (madeCells #[.slice none 0 0] n) 29)) n 0 (fun _ => 0) zss :=
  ⟨(World.rowIs_made w (.slice none 0 0) n 29).congr (fun i _ => by simp), fun _ h => absurd h (by omega), fun _ h => absurd h (by omega), fun _ _ _ h => absurd h (by omega), bel_alloc _ _⟩

theorem ToSS.step {w wr w1 : World} {n k nk : Nat} {B : Nat → Nat} {zss : List (List Int)} (h : ToSS w wr n k B zss) (hr : RI w1 wr.heap.size (zss.getD k [])) (hb : Below wr.heap.size wr w1) (hs : wr.heap.size < w1.heap.size) (hnk : (zss.getD k []).length = nk) :
    ToSS w (w1.setCell ⟨w.heap.size, k, none⟩ (.slice (some ⟨wr.heap.size, 0, none⟩) nk nk)) n (k + 1) (fun j => if j = k then wr.heap.size else B j) zss := by
  have hwl : w.heap.size < wr.heap.size := h.row.lt
  have hk : ∀ j, j ≠ w.heap.size → (w1.setCell ⟨w.heap.size, k, none⟩ (.slice (some ⟨wr.heap.size, 0, none⟩) nk nk)).heap[j]? = w1.heap[j]? := fun j hj => heap_setCell_other _ _ _ _ hj
  refine ⟨?_, fun i hi => ?_, fun i hi => ?_, fun i j hij hj => ?_, (h.old.trans (hb.mono (by omega))).setCell (Nat.le_refl _) _⟩
  · have h1 : w1.rowIs w.heap.size 29 n (fun j => if j < k then .slice (some ⟨B j, 0, none⟩) (zss.getD j []).length (zss.getD j []).length else .slice none 0 0) := by
      have h2 := h.row
      obtain ⟨cs, h3, h4, h5⟩ := h2
      exact ⟨cs, (hb.block _ hwl).trans h3, h4, h5⟩
    refine (h1.set k _).congr (fun i _ => ?_)
    by_cases e : i = k
    · subst e; rw [if_pos rfl, if_pos (by omega), if_pos rfl, hnk]
    · rw [if_neg e]
      by_cases l : i < k
      · rw [if_pos l, if_pos (by omega), if_neg e]
      · rw [if_neg l, if_neg (by omega)]
  · by_cases e : i = k
    · subst e
      simp only [if_pos]
      exact hr.of_block (hk _ (by omega))
    · simp only [if_neg e]
      have := h.bs i (by omega)
      exact (h.inner i (by omega)).of_block ((hk _ (by omega)).trans (hb.block _ this.2))
  · by_cases e : i = k
    · subst e
      simp only [if_pos]
      simp [World.setCell]
      omega
    · simp only [if_neg e]
      have := h.bs i (by omega)
      simp [World.setCell]
      omega
  · by_cases e : j = k
    · subst e
      simp only [if_pos]
      rw [if_neg (by omega)]
      exact (h.bs i (by omega)).2
    · simp only [if_neg e]
      rw [if_neg (by omega)]
      exact h.mono i j hij (by omega)

/-- What toIntSS leaves. -/
def ToEnd (n : Nat) (zss : List (List Int)) (w : World) (e : Ending) (w' : World) : Prop :=
  ∃ B : Nat → Nat, e = .returned (.slice (some ⟨w.heap.size, 0, none⟩) n n) ∧ SS w' w.heap.size w'.heap.size w.heap.size B zss ∧ Below w.heap.size w w'

set_option maxRecDepth 100000 in
set_option maxHeartbeats 800000 in
theorem toIntSS_any (A : Option Addr) (n cap : Nat) (zss : List (List Int)) (w : World) (hn : zss.length = n) (hm : n ≤ 1048576) (hi : ∀ i, i < n → (zss.getD i []).length ≤ 1048576) (h : IntsS w A zss) :
    Calls Tryd.prog 21 #[.slice A n cap] w (ToEnd n zss w) := by
  have hmk := run_make_row' (P := Tryd.prog) 24 29 (.slice none 0 0) 24 Tryd.underlying24 infoIS rfl .i64 .i64 n (by omega) (by omega)
  have Hn := Lib.hid hn
  have HI := Lib.hid h
  have Hi := Lib.hid hi
  clear hn h hi
  go_enter Tryd.func21, Tryd.ntmps21
  go_wp2
  clear hmk
  go_loopw [4] (fun i wr => ∃ (k : Nat) (B : Nat → Nat), k ≤ n ∧ i = .int .i64 k ∧ ToSS w wr n k B zss) (fun i _ => n - (intOf i).toNat)
  case atStart => exact ⟨0, _, Nat.zero_le _, rfl, ToSS.start w n zss⟩
  case round =>
    obtain ⟨k, B, hk, rfl, hst⟩ := hrel
    have Hst := Lib.hid hst
    clear hst
    by_cases hlt : k < n
    · obtain ⟨b, off, rfl, hc⟩ := (HI.out.below Hst.out.old) (by have := Hn.out; omega)
      obtain ⟨Ai, ci, h1, h2⟩ := hc k (by have := Hn.out; omega)
      have hlk := Hi.out k hlt
      obtain ⟨nk, hnk⟩ : ∃ nk, (zss.getD k []).length = nk := ⟨_, rfl⟩
      rw [hnk] at h1 hlk
      have Hnk := Lib.hid hnk
      have H2 := Lib.hid h2
      clear hc h2 hnk
      have hk0 : (0 : Int) ≤ (k : Int) := by omega
      have hk1 : (k : Int) < (n : Int) := by omega
      go_wp2_with fail
      refine (toIntS_new Ai nk ci (zss.getD k []) wr Hnk.out hlk H2.out).mono ?_
      rintro e w1 ⟨rfl, r1, b1, z1⟩
      have hz : w1.cell? ⟨w.heap.size, k, none⟩ = some (.slice none 0 0) := by
        have h3 := Hst.out.row.cell hlt
        rw [if_neg (by omega)] at h3
        exact (b1.cell (p := ⟨w.heap.size, k, none⟩) Hst.out.row.lt).trans h3
      have hf : w1.frozen? ⟨w.heap.size, k, none⟩ = false := (b1.frozen (p := ⟨w.heap.size, k, none⟩) Hst.out.row.lt).trans (Hst.out.row.frozen k)
      have HQ := Lib.hid (Hst.out.step r1 b1 z1 Hnk.out)
      clear r1 b1 h1
      go_wp2
      go_roundw
      case rel => exact ⟨k + 1, _, by omega, by go_num, HQ.out⟩
      case measure => simp [intOf]; omega
    · obtain rfl : k = n := by omega
      go_wp2
      go_ret
      refine ⟨B, rfl, ⟨fun i hi => ?_, fun i hi => Hst.out.inner i (by have := Hn.out; omega), Nat.le_refl _, Hst.out.row.lt, fun i hi => Hst.out.bs i (by have := Hn.out; omega), fun i j hij hj => Hst.out.mono i j hij (by have := Hn.out; omega)⟩, Hst.out.old⟩
      have h3 := Hst.out.row.cell (i := i) (by have := Hn.out; omega)
      rw [if_pos (by have := Hn.out; omega)] at h3
      exact h3

set_option maxRecDepth 100000 in
set_option maxHeartbeats 800000 in
theorem eqIntSS_same (g1 g2 n c1 c2 lo hi lo' hi' : Nat) (B1 B2 : Nat → Nat) (zss : List (List Int)) (w : World) (hn : zss.length = n) (hm : n ≤ 1048576) (hi0 : ∀ i, i < n → (zss.getD i []).length ≤ 1048576) (h1 : SS w lo hi g1 B1 zss) (h2 : SS w lo' hi' g2 B2 zss) (hs : hi ≤ w.heap.size) (hs' : hi' ≤ w.heap.size) :
    Calls Tryd.prog 23 #[.slice (some ⟨g1, 0, none⟩) n c1, .slice (some ⟨g2, 0, none⟩) n c2] w fun e w' => e = .returned (.bool true) ∧ Below w.heap.size w w' := by
  have Hn := Lib.hid hn
  have H1 := Lib.hid h1
  have H2 := Lib.hid h2
  have Hi := Lib.hid hi0
  clear hn h1 h2 hi0
  go_enter Tryd.func23, Tryd.ntmps23
  go_wp2
  go_loopw [5] (fun i wr => ∃ k : Nat, k ≤ n ∧ i = .int .i64 k ∧ Below w.heap.size w wr) (fun i _ => n - (intOf i).toNat)
  case atStart => exact ⟨0, Nat.zero_le _, rfl, Below.refl _ _⟩
  case round =>
    obtain ⟨k, hk, rfl, hr⟩ := hrel
    have Hr := Lib.hid hr
    clear hr
    by_cases hlt : k < n
    · have e1 := (H1.out.below Hr.out hs).row k (by have := Hn.out; omega)
      have e2 := (H2.out.below Hr.out hs').row k (by have := Hn.out; omega)
      have r1 := (H1.out.below Hr.out hs).inner k (by have := Hn.out; omega)
      have r2 := (H2.out.below Hr.out hs').inner k (by have := Hn.out; omega)
      have hlk := Hi.out k hlt
      have HE : Hid (Calls Tryd.prog 22 #[.slice (some ⟨B1 k, 0, none⟩) (zss.getD k []).length (zss.getD k []).length, .slice (some ⟨B2 k, 0, none⟩) (zss.getD k []).length (zss.getD k []).length] wr.drew fun e w' => e = .returned (.bool true) ∧ Below wr.drew.heap.size wr.drew w') :=
        eqInts_same _ _ _ _ _ (zss.getD k []) wr.drew rfl hlk (RI.ints (r1.of_block rfl)) (RI.ints (r2.of_block rfl))
      clear r1 r2 hlk
      generalize (zss.getD k []).length = nk at e1 e2 HE
      generalize B1 k = b1 at e1 HE
      generalize B2 k = b2 at e2 HE
      have hk0 : (0 : Int) ≤ (k : Int) := by omega
      have hk1 : (k : Int) < (n : Int) := by omega
      go_wp2_with fail
      go_still_tail 8, (by kernel_rfl)
      change wpList _ _ _ _ _ wr.drew
      go_wp2_with fail
      refine HE.out.mono ?_
      rintro e w1 ⟨rfl, hb⟩
      have Hb := Lib.hid (bel_trans Hr.out (bel_of_drew hb))
      clear hb
      go_wp2
      go_roundw
      case rel => exact ⟨k + 1, by omega, by go_num, Hb.out⟩
      case measure => simp [intOf]; omega
    · go_wp2
      go_ret
      exact ⟨rfl, Hr.out⟩

set_option maxRecDepth 100000 in
set_option maxHeartbeats 800000 in
theorem markIntSS_any (g n cap lo hi : Nat) (B : Nat → Nat) (zss : List (List Int)) (k0 : Int) (w : World) (hn : zss.length = n) (ht : tot zss ≤ 1048576) (hk0 : 0 ≤ k0) (hk1 : k0 ≤ 1048576) (hm : n ≤ 1048576) (h : SS w lo hi g B zss) (hs : hi ≤ w.heap.size) :
    Calls Tryd.prog 24 #[.slice (some ⟨g, 0, none⟩) n cap, .int .i64 k0] w fun e w' => e = .returned (.int .i64 (k0 + tot zss)) ∧ Turns lo hi w w' := by
  have Hn := Lib.hid hn
  have H := Lib.hid h
  clear hn h
  have HL : Hid (∀ k, k ≤ n → tot (zss.take k) ≤ tot zss) := fun k _ => by
    show (List.map List.length (zss.take k)).sum ≤ (List.map List.length zss).sum
    conv => rhs; rw [← List.take_append_drop k zss, List.map_append, List.sum_append]
    omega
  go_enter Tryd.func24, Tryd.ntmps24
  go_wp2
  go_loopw [1, 5] (fun t i wr => ∃ k : Nat, k ≤ n ∧ i = .int .i64 k ∧ t = .int .i64 (k0 + tot (zss.take k)) ∧ Turns lo hi w wr ∧ (∀ j, k ≤ j → j < n → RI wr (B j) (zss.getD j [])) ∧ wr.heap[g]? = w.heap[g]?) (fun _ i _ => n - (intOf i).toNat)
  case atStart => exact ⟨0, Nat.zero_le _, rfl, by simp [tot], Turns.of_below (Below.refl _ _), fun j _ hj => H.out.inner j (by have := Hn.out; omega), rfl⟩
  case round =>
    obtain ⟨k, hk, rfl, rfl, htn, hri, hgg⟩ := hrel
    have Ht := Lib.hid htn
    have Hri := Lib.hid hri
    have Hg := Lib.hid hgg
    clear htn hri hgg
    by_cases hlt : k < n
    · have e1 := (World.cell?_of_block (a := ⟨g, k, none⟩) Hg.out).trans (H.out.row k (by have := Hn.out; omega))
      have hb := H.out.bs k (by have := Hn.out; omega)
      have hlow := H.out.low
      have HM : Hid (Calls Tryd.prog 25 #[.slice (some ⟨B k, 0, none⟩) (zss.getD k []).length (zss.getD k []).length, .int .i64 (k0 + tot (zss.take k))] wr fun e w' => e = .returned (.int .i64 (k0 + tot (zss.take k) + (zss.getD k []).length)) ∧ IV w' (B k) (B k + 1) (some ⟨B k, 0, none⟩) (mkI (k0 + tot (zss.take k)) (zss.getD k []).length) ∧ Turns (B k) (B k + 1) wr w') :=
        markInts_any _ _ _ _ _ _ (zss.getD k []) wr rfl (by have := tot_le (zss := zss) (i := k) (by have := Hn.out; omega); omega) (by omega) (by have := HL.out k hk; omega) (fun _ => ⟨B k, rfl, Nat.le_refl _, Nat.lt_succ_self _, Hri.out k (Nat.le_refl _) hlt⟩)
      have Hts := Lib.hid (tot_take_succ (zss := zss) (k := k) (by have := Hn.out; omega))
      have hk0' : (0 : Int) ≤ (k : Int) := by omega
      have hk1' : (k : Int) < (n : Int) := by omega
      generalize tot (zss.take k) = tk at HM Hts ⊢
      generalize hnk : (zss.getD k []).length = nk at e1 HM Hts
      clear hnk
      go_wp2_with fail
      refine HM.out.mono ?_
      rintro e w1 ⟨rfl, _, t1⟩
      have T1 : Hid (Turns lo hi w w1) := Ht.out.trans (t1.wide (by omega) (by omega))
      have R1 : Hid (∀ j, k + 1 ≤ j → j < n → RI w1 (B j) (zss.getD j [])) := fun j hj hjn => (Hri.out j (by omega) hjn).of_block (t1.block _ (by have := (H.out.bs j (by have := Hn.out; omega)).2; have := Ht.out.size; omega) (by have := H.out.mono k j (by omega) (by have := Hn.out; omega); omega))
      have G1 : Hid (w1.heap[g]? = w.heap[g]?) := (t1.block g (by have := H.out.high; have := Ht.out.size; omega) (by omega)).trans Hg.out
      have HE : Hid (((k0 + tk + nk : Int)) = k0 + (tk + nk : Nat)) := by show ((k0 + tk + nk : Int)) = k0 + (tk + nk : Nat); omega
      clear t1
      go_wp2
      go_roundw
      case rel => exact ⟨k + 1, by omega, by go_num, by rw [Hts.out, HE.out], T1.out, R1.out, G1.out⟩
      case measure => simp [intOf]; omega
    · obtain rfl : k = n := by omega
      have He : Hid (zss.take k = zss) := List.take_of_length_le (by have := Hn.out; omega)
      rw [He.out]
      go_wp2
      go_ret
      exact ⟨rfl, Ht.out⟩
end Go.Proofs.YtbmfleakldhabaaDoor.Rw
