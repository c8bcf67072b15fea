/- Rows of integers that a call has made: compared, marked, held. What the reference's ListQueue answers. -/
import Derived.Test.YtpjelojmkmednaaLq2
import Derived.Test.YtpjelojmkmednaaLq8
namespace Go.Proofs.Ytpjelojmkmednaa.Que
open Go.RowKit Go.Deep Base

def RI (w : World) (g : Nat) (zs : List Int) : Prop := ∀ i, i < zs.length → w.cell? ⟨g, i, none⟩ = some (.int .i64 (zs.getD i 0)) ∧ ∀ j, w.frozen? ⟨g, j, none⟩ = false
def IV (w : World) (lo hi : Nat) (A : Option Addr) (zs : List Int) : Prop := 0 < zs.length → ∃ g, A = some ⟨g, 0, none⟩ ∧ lo ≤ g ∧ g < hi ∧ RI w g zs
/-- A new row of integers comes back. -/
def NewI (w : World) (zs : List Int) (e : Ending) (w' : World) : Prop := ∃ A cap, e = .returned (.slice A zs.length cap) ∧ IV w' w.heap.size w'.heap.size A zs ∧ Below w.heap.size w w'

theorem RI.of_block {w w' : World} {g : Nat} {zs : List Int} (h : RI w g zs) (e : w'.heap[g]? = w.heap[g]?) : RI w' g zs := fun i hi =>
  ⟨(World.cell?_of_block e).trans (h i hi).1, fun j => (World.frozen?_of_block e).trans ((h i hi).2 j)⟩
theorem IV.of_block {w w' : World} {lo hi : Nat} {A : Option Addr} {zs : List Int} (h : IV w lo hi A zs) (e : ∀ g, lo ≤ g → g < hi → w'.heap[g]? = w.heap[g]?) : IV w' lo hi A zs := by
  intro hp
  obtain ⟨g, rfl, h1, h2, h3⟩ := h hp
  exact ⟨g, rfl, h1, h2, h3.of_block (e g h1 h2)⟩
theorem IV.wide {w : World} {lo hi lo' hi' : Nat} {A : Option Addr} {zs : List Int} (h : IV w lo hi A zs) (h1 : lo' ≤ lo) (h2 : hi ≤ hi') : IV w lo' hi' A zs := by
  intro hp
  obtain ⟨g, rfl, h1', h2', h3⟩ := h hp
  exact ⟨g, rfl, by omega, by omega, h3⟩
theorem IV.below {w w' : World} {lo hi B : Nat} {A : Option Addr} {zs : List Int} (h : IV w lo hi A zs) (hb : Below B w w') (hB : hi ≤ B) : IV w' lo hi A zs :=
  h.of_block fun g _ h2 => hb.block g (by omega)
theorem IV.turns {w w' : World} {lo hi l h : Nat} {A : Option Addr} {zs : List Int} (s : IV w lo hi A zs) (t : Turns l h w w') (hd : hi ≤ l ∨ h ≤ lo) (hs : hi ≤ w.heap.size) : IV w' lo hi A zs :=
  s.of_block fun g _ h2 => t.block g (by omega) (by omega)
theorem IV.ints {w : World} {lo hi : Nat} {A : Option Addr} {zs : List Int} (h : IV w lo hi A zs) : Ints w A zs := by
  intro hp
  obtain ⟨g, rfl, _, _, h3⟩ := h hp
  exact ⟨g, 0, rfl, fun i hi => by rw [Nat.zero_add]; exact (h3 i hi).1⟩
theorem IV.nil (w : World) (lo hi : Nat) (A : Option Addr) : IV w lo hi A [] := fun h => absurd h (by simp)
theorem iv_owns {w : World} {base n cap : Nat} {e : TypeId} {A : Option Addr} {zs : List Int} (h : w.ownsRow base e 1 (.slice A n cap) n (zs.map (Value.int .i64))) : IV w base w.heap.size A zs := by
  intro hp
  have hl := h.1
  simp at hl
  rcases h.2 with ⟨hv, hn⟩ | ⟨g, cap', cur, hv, hb, hg, hfr⟩
  · omega
  · injection hv with hA _ _
    subst hA
    have hc : w.ownsRow base e 1 (.slice (some ⟨g, 0, none⟩) n cap) n (zs.map (Value.int .i64)) := h
    refine ⟨g, rfl, hb, (h.lt g rfl).2, fun i hi => ⟨?_, fun j => ?_⟩⟩
    · rw [hc.cellAt i (by omega)]
      simp [hi]
    · simp [World.frozen?, hg]

set_option maxRecDepth 100000 in
set_option maxHeartbeats 400000 in
theorem eqInts_same (A1 A2 : Option Addr) (n c1 c2 : Nat) (zs : List Int) (w : World) (hn : zs.length = n) (hm : n ≤ 1048576) (h1 : Ints w A1 zs) (h2 : Ints w A2 zs) :
    Calls Try.prog 35 #[.slice A1 n c1, .slice A2 n c2] w fun e w' => e = .returned (.bool true) ∧ Below w.heap.size w w' := by
  have Hn := Lib.hid hn
  clear hn
  have H1 := Lib.hid h1
  have H2 := Lib.hid h2
  clear h1 h2
  go_enter Try.func35, Try.ntmps35
  go_wp2
  go_loopw [5] (fun i wr => ∃ k : Nat, k ≤ n ∧ i = .int .i64 k ∧ Below w.heap.size w wr) (fun i _ => n - (intOf i).toNat)
  case atStart => exact ⟨0, Nat.zero_le _, rfl, Below.refl _ _⟩
  case round =>
    obtain ⟨k, hk, rfl, hr⟩ := hrel
    by_cases hlt : k < n
    · obtain ⟨b, off, rfl, hc⟩ := H1.out.below hr (by have := Hn.out; omega)
      have hc1 := hc k (by have := Hn.out; omega)
      clear hc
      obtain ⟨b', off', rfl, hc⟩ := H2.out.below hr (by have := Hn.out; omega)
      have hc2 := hc k (by have := Hn.out; omega)
      clear hc
      generalize zs.getD k 0 = z at hc1 hc2
      go_wp2
      go_region
      all_goals
        go_wp2
        go_roundw
        case rel => exact ⟨k + 1, by omega, by go_num, by repeat (first | exact hr | apply Below.drew)⟩
        case measure => simp [intOf]; omega
    · go_wp2
      go_ret
      exact ⟨rfl, hr⟩

def mkI (k : Int) (n : Nat) : List Int := (List.range n).map fun (i : Nat) => k + (i : Int)
theorem mkI_len (k : Int) (n : Nat) : (mkI k n).length = n := by simp [mkI]
theorem mkI_at (k : Int) (n i : Nat) (h : i < n) : (mkI k n).getD i 0 = k + (i : Int) := by simp [mkI, h]

def MarkIt (w wr : World) (lo hi : Nat) (A : Option Addr) (n : Nat) (k : Int) (zs : List Int) (i : Nat) : Prop :=
  (0 < n → ∃ g, A = some ⟨g, 0, none⟩ ∧ lo ≤ g ∧ g < hi ∧ ∀ j, j < n → wr.cell? ⟨g, j, none⟩ = some (.int .i64 (if j < i then k + (j : Int) else zs.getD j 0)) ∧ ∀ o, wr.frozen? ⟨g, o, none⟩ = false) ∧ Turns lo hi w wr

theorem MarkIt.step {w wr : World} {lo hi g n i : Nat} {k : Int} {zs : List Int} (h : MarkIt w wr lo hi (some ⟨g, 0, none⟩) n k zs i) (hn : 0 < n) : MarkIt w (wr.setCell ⟨g, i, none⟩ (.int .i64 (k + (i : Int)))) lo hi (some ⟨g, 0, none⟩) n k zs (i + 1) := by
  obtain ⟨g', e, h1, h2, h3⟩ := h.1 hn
  cases e
  refine ⟨fun _ => ⟨g, rfl, h1, h2, fun j hj => ⟨?_, fun o => by rw [World.frozen?_setCell]; exact (h3 j hj).2 o⟩⟩, h.2.setCell h1 h2 _⟩
  rw [cell_set (by rw [(h3 j hj).1]; rfl)]
  by_cases e : j = i
  · subst e; simp
  · rw [if_neg e, (h3 j hj).1]
    by_cases l : j < i
    · rw [if_pos l, if_pos (by omega)]
    · rw [if_neg l, if_neg (by omega)]

set_option maxRecDepth 100000 in
set_option maxHeartbeats 800000 in
theorem markInts_any (A : Option Addr) (n cap lo hi : Nat) (k : Int) (zs : List Int) (w : World) (hn : zs.length = n) (hm : n ≤ 1048576) (hk0 : 0 ≤ k) (hk1 : k ≤ 1099511627776) (h : IV w lo hi A zs) :
    Calls Try.prog 36 #[.slice A n cap, .int .i64 k] w fun e w' => e = .returned (.int .i64 (k + n)) ∧ IV w' lo hi A (mkI k n) ∧ Turns lo hi w w' := by
  have Hn := Lib.hid hn
  clear hn
  have HS : Hid (MarkIt w w lo hi A n k zs 0) := ⟨fun hp => by
    obtain ⟨g, e, h1, h2, h3⟩ := h (by have := Hn.out; omega)
    exact ⟨g, e, h1, h2, fun i hi => by simpa using h3 i (by have := Hn.out; omega)⟩, Turns.of_below (Below.refl _ _)⟩
  clear h
  go_enter Try.func36, Try.ntmps36
  go_wp2
  go_loopw [1, 5] (fun t i wr => ∃ j : Nat, j ≤ n ∧ i = .int .i64 j ∧ t = .int .i64 (k + j) ∧ MarkIt w wr lo hi A n k zs j) (fun _ i _ => n - (intOf i).toNat)
  case atStart => exact ⟨0, Nat.zero_le _, rfl, by simp, HS.out⟩
  case round =>
    obtain ⟨j, hj, rfl, rfl, hr⟩ := hrel
    clear HS
    by_cases hlt : j < n
    · obtain ⟨g, rfl, h1, h2, h3⟩ := hr.1 (by omega)
      obtain ⟨c0, c4⟩ := h3 j hlt
      simp only [Nat.lt_irrefl, if_false] at c0
      generalize zs.getD j 0 = s at c0
      have Hr := Lib.hid (hr.step (by omega))
      clear hr h3
      go_wp2
      go_roundw
      case rel => exact ⟨j + 1, by omega, by go_num, by go_num, Hr.out⟩
      case measure => simp [intOf]; omega
    · have Hr := Lib.hid hr
      clear hr
      obtain rfl : j = n := by omega
      go_wp2
      go_ret
      refine ⟨rfl, fun hp => ?_, Hr.out.2⟩
      rw [mkI_len] at hp
      obtain ⟨g, e, h1, h2, h3⟩ := Hr.out.1 hp
      refine ⟨g, e, h1, h2, fun i hi => ?_⟩
      rw [mkI_len] at hi
      have := h3 i hi
      simp only [if_pos hi] at this
      rw [mkI_at _ _ _ hi]
      exact this

set_option maxRecDepth 100000 in
set_option maxHeartbeats 800000 in
theorem heldInts_any (A : Option Addr) (n cap lo hi : Nat) (k : Int) (w : World) (hm : n ≤ 1048576) (hk0 : 0 ≤ k) (hk1 : k ≤ 1099511627776) (h : IV w lo hi A (mkI k n)) :
    Calls Try.prog 37 #[.slice A n cap, .int .i64 k] w fun e w' => e = .returned (.int .i64 (k + n)) ∧ w = w' := by
  have HS := Lib.hid h
  clear h
  go_enter Try.func37, Try.ntmps37
  go_wp2
  go_loop [1, 5] (fun t i => ∃ j : Nat, j ≤ n ∧ i = .int .i64 j ∧ t = .int .i64 (k + j)) (fun _ i => n - (intOf i).toNat)
  case atStart => exact ⟨0, Nat.zero_le _, rfl, by simp⟩
  case round =>
    obtain ⟨j, hj, rfl, rfl⟩ := hrel
    by_cases hlt : j < n
    · obtain ⟨g, rfl, h1, h2, h3⟩ := HS.out (by rw [mkI_len]; omega)
      obtain ⟨c0, _⟩ := h3 j (by rw [mkI_len]; exact hlt)
      rw [mkI_at _ _ _ hlt] at c0
      clear h3
      go_wp2
      go_round
      case rel => exact ⟨j + 1, by omega, by go_num, by go_num⟩
      case measure => simp [intOf]; omega
    · obtain rfl : j = n := by omega
      go_wp2
      go_ret
      exact ⟨rfl, rfl⟩
end Go.Proofs.Ytpjelojmkmednaa.Que

namespace Go.Proofs.Ytpjelojmkmednaa.Que
open Go.RowKit Go.Deep Base

def listA (ss : List Sl) (f l r c : Int) : List Int := if okQ ss f l r c = true then idsOf ss (usOf ss f) else []
theorem listA_no {ss : List Sl} {f l r c : Int} (h : okQ ss f l r c = false) : listA ss f l r c = [] := by unfold listA; rw [if_neg (by rw [h]; simp)]
theorem listA_val {ss : List Sl} {f l r c : Int} {us fs : List Nat} (v : Val ss f l r c us fs) : listA ss f l r c = idsOf ss us := by unfold listA; rw [if_pos (val_ok v), val_us v]

/-- Between two rounds: the row of the Ids so far. -/
structure ListSt (B : Nat) (W wr : World) (v : Value) (ids : List Int) : Prop where
  own : wr.ownsRow B 3 1 v ids.length (ids.map (Value.int .i64))
  old : Below B W wr
theorem ListSt.step {B : Nat} {W wr w1 : World} {v v' : Value} {ids : List Int} {x : Int} {o : Obj} (h : ListSt B W wr v ids) (hB : B = W.heap.size) (hown : w1.ownsRow B 3 1 v' (ids.length + 1) (ids.map (Value.int .i64) ++ [.int .i64 x])) (hg : (wr.alloc o).grownBy w1 v.ownBlock) : ListSt B W w1 v' (ids ++ [x]) := by
  have hsz : B ≤ wr.heap.size := by rw [hB]; exact h.old.size
  refine ⟨by simpa using hown, (h.old.alloc hsz o).grown hg (by simp; omega) (fun j e => by have := (h.own.lt j e).1; omega)⟩
theorem grown_below {w w' : World} (h : Below w.heap.size w w') (row : Option Nat) : w.grownBy w' row := ⟨h.os, h.tape, h.output, h.size, fun i hi _ => h.block i hi⟩

set_option maxRecDepth 100000 in
set_option maxHeartbeats 2000000 in
theorem specList_any (A : Option Addr) (n cap : Nat) (ss : List Sl) (f l r c : Int) (lo hi : Nat) (w : World) (hn : ss.length = n) (hm : n ≤ 1048576) (h : SlV w lo hi A ss) (hhi : hi ≤ w.heap.size) :
    Calls Try.prog 51 #[.agg #[.slice A n cap, .int .i64 f, .int .i64 l, .int .i64 r, .int .i64 c]] w (NewI w (listA ss f l r c)) := by
  have Hn := Lib.hid hn
  have HS := Lib.hid h
  have Hhi := Lib.hid hhi
  clear h hn hhi
  go_enter Try.func51, Try.ntmps51
  go_wp2_with fail
  have hB0 : Below w.heap.size w ((w.alloc (.cells #[.slice A n cap, .int .i64 f, .int .i64 l, .int .i64 r, .int .i64 c] 26)).alloc (.cells #[] 3)) := bel_trans (bel_alloc w _) (bel_alloc _ _)
  have X0 : Blk5 ((w.alloc (.cells #[.slice A n cap, .int .i64 f, .int .i64 l, .int .i64 r, .int .i64 c] 26)).alloc (.cells #[] 3)) w.heap.size (.slice A n cap) (.int .i64 f) (.int .i64 l) (.int .i64 r) (.int .i64 c) := Blk5.alloc (heap_alloc_new w _) _
  have O0 := World.ownsRow_lit (base := w.heap.size + 1) (e := 3) (size := 1) (w.alloc (.cells #[.slice A n cap, .int .i64 f, .int .i64 l, .int .i64 r, .int .i64 c] 26)) #[] 0 (by simp) (by simp) (by simp)
  refine (specQueueOk_any A n cap lo hi f l r c ss _ Hn.out hm (HS.out.below hB0 Hhi.out) (by have := Hhi.out; simp; omega)).mono ?_
  rintro e w1 ⟨rfl, b1⟩
  have X1 := Lib.hid (X0.below b1)
  have B1 := Lib.hid (bel_trans hB0 b1)
  have V1 := Lib.hid (HS.out.below B1.out Hhi.out)
  have L1 : Hid (ListSt (w.heap.size + 1) (w.alloc (.cells #[.slice A n cap, .int .i64 f, .int .i64 l, .int .i64 r, .int .i64 c] 26)) w1 (.slice (some ⟨w.heap.size + 1, 0, none⟩) 0 0) []) := by
    refine ⟨?_, ?_⟩
    · have h := O0.kept (grown_below b1 none) (.inr (by simp [Value.ownBlock]))
      simpa using h
    · exact ((Below.refl _ _).alloc (by simp) _).trans (b1.mono (by simp))
  clear b1 X0 O0 hB0
  cases hok : okQ ss f l r c
  · have Ho := Lib.hid (listA_no hok)
    clear hok
    go_wp2_with fail
    go_ret
    exact ⟨none, 0, by rw [Ho.out]; rfl, by rw [Ho.out]; exact IV.nil _ _ _ _, B1.out⟩
  obtain ⟨us, fs, v⟩ := ok_val hok
  clear hok
  have hn := Hn.out
  rw [v.len] at hn
  subst hn
  have Hv := Lib.hid v
  have Hus := Lib.hid (seg_head v.seg)
  have hul : us.length ≤ 60 := by have := v.full; rw [List.length_append] at this; omega
  have Hul := Lib.hid hul
  have Hi := Lib.hid (listA_val v)
  clear v V1 hul
  have HW : Hid (∀ wr, Below (w.heap.size + 1) (w.alloc (.cells #[.slice A 60 cap, .int .i64 f, .int .i64 l, .int .i64 r, .int .i64 c] 26)) wr → Blk5 wr w.heap.size (.slice A 60 cap) (.int .i64 f) (.int .i64 l) (.int .i64 r) (.int .i64 c) ∧ SlV wr lo hi A ss ∧ Below w.heap.size w wr) := fun wr hb =>
    ⟨Blk5.of_block (heap_alloc_new w _) (hb.block _ (by omega)), HS.out.below ((bel_alloc w _).trans (hb.mono (by omega))) Hhi.out, (bel_alloc w _).trans (hb.mono (by omega))⟩
  obtain ⟨x0, x1, x2, x3, x4, xf⟩ := X1.out.cells
  go_wp2_with fail
  clear x0 x1 x2 x3 x4 xf
  go_loopw [3, 4] (fun v p wr => ∃ pre suf, us = pre ++ suf ∧ p = .int .i64 (headOf suf) ∧ ListSt (w.heap.size + 1) (w.alloc (.cells #[.slice A 60 cap, .int .i64 f, .int .i64 l, .int .i64 r, .int .i64 c] 26)) wr v (idsOf ss pre)) (fun _ p _ => left us (intOf p))
  case atStart => exact ⟨[], us, rfl, by rw [← Hus.out], L1.out⟩
  case round =>
    obtain ⟨pre, suf, hus, rfl, hst⟩ := hrel
    have Hst := Lib.hid hst
    clear hst L1 X1 B1
    obtain ⟨hbx, hsv, hbw⟩ := HW.out _ Hst.out.old
    obtain ⟨x0, x1, x2, x3, x4, xf⟩ := hbx.cells
    have Hbw := Lib.hid hbw
    have Hsv := Lib.hid hsv
    clear hbx hsv hbw
    cases suf with
    | nil =>
      rw [List.append_nil] at hus
      subst hus
      obtain ⟨A', cap', rfl⟩ := owns_form Hst.out.own
      simp only [headOf]
      go_wp2
      go_ret
      refine ⟨A', cap', by rw [Hi.out]; rfl, ?_, Hbw.out⟩
      rw [Hi.out]
      exact (iv_owns Hst.out.own).wide (by omega) (Nat.le_refl _)
    | cons x suf =>
      subst hus
      have hx60 : x < 60 := Hv.out.lt x (by simp)
      obtain ⟨g, rfl, hg1, hg2, hrd⟩ := Hsv.out (by rw [Hv.out.len]; omega)
      obtain ⟨c0, c1, c2, c3, _⟩ := hrd x (by rw [Hv.out.len]; exact hx60)
      have hx0 : (0 : Int) ≤ (x : Int) := by omega
      have hx1 : (x : Int) < 60 := by omega
      have hxn : ((x : Int) != -1) = true := by simp
      have Hnx := Lib.hid (seg_next Hv.out.seg)
      have hnd : (pre ++ x :: suf).Nodup := (List.nodup_append.1 Hv.out.nd).1
      have Hlt := Lib.hid (left_less hnd)
      clear hnd hrd
      obtain ⟨s, hs⟩ : ∃ s, ss.getD x zSl = s := ⟨_, rfl⟩
      have hs' : sl ss x = s := hs
      rw [hs] at c0 c1 c2 c3
      have Hs := Lib.hid hs'
      have Hs0 := Lib.hid hs
      clear hs hs'
      obtain ⟨sid, sprev, snext, sused⟩ := s
      dsimp only at c0 c1 c2 c3
      have hnx : snext = headOf suf := by have := Hnx.out; rw [Hs.out] at this; exact this
      subst hnx
      simp only [headOf]
      generalize hnq : headOf suf = nq at c2 Hlt Hs Hs0
      have Hnq := Lib.hid hnq
      clear hnq
      obtain ⟨i0, hi0, hz0, hz1, hz2⟩ := info_parts infoInt
      have Hi0 := Lib.hid hi0
      have Hz0 := Lib.hid hz0
      have Hz1 := Lib.hid hz1
      have Hz2 := Lib.hid hz2
      clear hi0 hz0 hz1 hz2
      have hsz : w.heap.size + 1 ≤ wr.heap.size := by have := Hst.out.old.size; simpa using this
      have hpl : pre.length ≤ 60 := by have := Hul.out; rw [List.length_append] at this; omega
      have Hpl := Lib.hid hpl
      clear hpl
      go_wp2_with (at_builtin; refine wpList_append_own _ rfl _ _ 33 rfl (w.heap.size + 1) 3 i0 (.int .i64 0) 1 8 Try.underlying33 Hi0.out Hz0.out Hz1.out Hz2.out rfl (by decide) _ _ _ rfl (Hst.out.own.alloc _) ⟨wr.heap.size, 0, none⟩ 1 1 [.int .i64 sid] rfl rfl ?c1h ?c2h ?c3h ?c4h ?c5h ?_)
      case c1h => exact new_one_at rfl _ _
      case c2h => simp [Value.oneCell']
      case c3h => rw [idsOf_len]; have := Hpl.out; unfold maxLen; omega
      case c4h => rw [idsOf_len]; have := Hpl.out; omega
      case c5h => simp; omega
      · intro v' w1 hown hg _
        have hst1 := Hst.out.step (by simp) hown hg
        obtain ⟨hbx, hsv, _⟩ := HW.out _ hst1.old
        obtain ⟨d0, _, _, _, _, _⟩ := hbx.cells
        obtain ⟨g', e', _, _, hcs⟩ := hsv (by rw [Hv.out.len]; omega)
        cases e'
        obtain ⟨_, _, e2, _, _⟩ := hcs x (by rw [Hv.out.len]; exact hx60)
        rw [Hs0.out] at e2
        have HQ : Hid (ListSt (w.heap.size + 1) (w.alloc (.cells #[.slice (some ⟨g, 0, none⟩) 60 cap, .int .i64 f, .int .i64 l, .int .i64 r, .int .i64 c] 26)) w1 v' (idsOf ss (pre ++ [x]))) := by
          have := idsOf_snoc ss pre x
          rw [Hs.out] at this
          show ListSt _ _ _ _ _
          rw [this]; exact hst1
        clear hst1 hown hg hcs hbx hsv x0 x1 x2 x3 x4 xf c0 c1 c2 c3
        dsimp only at e2
        go_wp2
        go_roundw
        case rel => exact ⟨pre ++ [x], suf, by simp, congrArg (Value.int .i64) Hnq.out.symm, HQ.out⟩
        case measure => exact Hlt.out
end Go.Proofs.Ytpjelojmkmednaa.Que
