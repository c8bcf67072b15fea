/- What linkOk, idOk and linksInRange answer. A range over a function whose rounds the CALLER bounds: what the iterator hands out next is told to the body, and the iterator may lean on what the caller's invariant says (so a list that leads back into itself is borne, where the body ends the loop). The contracts of follow and of the iterator that it makes. A map from Ids to true that a call makes, in memory: its look-up, its store, its length. Whether a row of bools has a false. A region that draws its order inside a round of a range over a function: what only reads is taken in the text's order, then the rest, where the rest stands in one forced order. -/
import Derived.Test.YtpjelojmkmednaaLq3
import Derived.RangeFuncNested
import Derived.RangeFuncLeaves
import Derived.WalkKit
import Derived.Shelf.Abstract
import Derived.OwnWalkIn
import Derived.TacticsInMore
import Derived.LoopNIn
import Derived.LoopIn
import Derived.Sort.LoopGhostIn
import Derived.StillTailTactics
import Derived.OrdersIn
import Derived.OrdersHeld
import Derived.RangeFuncCalls
namespace Go.Proofs.Ytpjelojmkmednaa.Que
open Go.RowKit Go.Deep Base

def lnkB (x : Int) : Bool := decide (-1 ≤ x) && decide (x < 60)
theorem lnkB_true {x : Int} (h1 : -1 ≤ x) (h2 : x < 60) : lnkB x = true := by simp [lnkB, h1, h2]
theorem lnkB_false {x : Int} (h : x < -1 ∨ 60 ≤ x) : lnkB x = false := by
  unfold lnkB
  rcases h with h | h
  · rw [decide_eq_false (by omega)]; rfl
  · rw [decide_eq_false (p := x < 60) (by omega)]; simp
set_option maxRecDepth 100000 in
theorem linkOk_any (x : Int) (w : World) : Calls Try.prog 135 #[.int .i64 x] w fun e w' => e = .returned (.bool (lnkB x)) ∧ w = w' := by
  by_cases h0 : -1 ≤ x
  · by_cases h1 : x < 60
    · go_enter Try.func135, Try.ntmps135
      go_wp2
      go_ret
      exact ⟨ret_bool (lnkB_true h0 h1).symm, rfl⟩
    · go_enter Try.func135, Try.ntmps135
      go_wp2
      go_ret
      exact ⟨ret_bool (lnkB_false (by omega)).symm, rfl⟩
  · go_enter Try.func135, Try.ntmps135
    go_wp2
    go_ret
    exact ⟨ret_bool (lnkB_false (by omega)).symm, rfl⟩

def idB (x : Int) : Bool := decide (1 ≤ x) && decide (x ≤ 1000000000)
theorem idB_true {x : Int} (h1 : 1 ≤ x) (h2 : x ≤ 1000000000) : idB x = true := by simp [idB, h1, h2]
theorem idB_false {x : Int} (h : x < 1 ∨ 1000000000 < x) : idB x = false := by
  unfold idB
  rcases h with h | h
  · rw [decide_eq_false (by omega)]; rfl
  · rw [decide_eq_false (p := x ≤ 1000000000) (by omega)]; simp
set_option maxRecDepth 100000 in
theorem idOk_any (x : Int) (w : World) : Calls Try.prog 81 #[.int .i64 x] w fun e w' => e = .returned (.bool (idB x)) ∧ w = w' := by
  by_cases h0 : 1 ≤ x
  · by_cases h1 : x ≤ 1000000000
    · go_enter Try.func81, Try.ntmps81
      go_wp2
      go_ret
      exact ⟨ret_bool (idB_true h0 h1).symm, rfl⟩
    · go_enter Try.func81, Try.ntmps81
      go_wp2
      go_ret
      exact ⟨ret_bool (idB_false (by omega)).symm, rfl⟩
  · go_enter Try.func81, Try.ntmps81
    go_wp2
    go_ret
    exact ⟨ret_bool (idB_false (by omega)).symm, rfl⟩

theorem Lk.range {w : World} {b : Nat} {ss : List Sl} {f l r c : Int} (h : Lk w b ss f l r c) (hn : ss.length = 60) : w.rangeAt b 0 (cellsL ss) := fun j v hv => by
  have := news_rd (h.rd hn) j v hv
  rwa [Addr.add_mid] at this

theorem ext4 {ss : List Sl} (hn : ss.length = 60) {k : Nat} (hk : k < 60) : (cellsL ss).toArray.extract (k * 4) (k * 4 + 4) = #[.int .i64 (sl ss k).id, .int .i64 (sl ss k).prev, .int .i64 (sl ss k).next, .bool (sl ss k).used] := by
  have hsz : (cellsL ss).toArray.size = 240 := by rw [List.size_toArray, cellsL_len, hn]
  apply Array.ext_getElem?
  intro i
  rw [Array.getElem?_extract]
  by_cases hi : i < 4
  · rw [if_pos (by rw [hsz]; omega), List.getElem?_toArray, cellsL_at ss k i (by omega) hi]
    have : i = 0 ∨ i = 1 ∨ i = 2 ∨ i = 3 := by omega
    rcases this with rfl | rfl | rfl | rfl <;> rfl
  · rw [if_neg (by rw [hsz]; omega), Array.getElem?_eq_none (by simp; omega)]

theorem infoSlots : (Try.prog.info? 92).map (·.size) = some 240 := by kernel_rfl

theorem index_slots {ss : List Sl} (hn : ss.length = 60) {k : Nat} (hk : k < 60) (w : World) :
    (Instr.index 92 (.agg (cellsL ss).toArray) (.int .i64 (k : Int))).run Try.prog w = .ok (.agg #[.int .i64 (sl ss k).id, .int .i64 (sl ss k).prev, .int .i64 (sl ss k).next, .bool (sl ss k).used]) w := by
  obtain ⟨i0, hi, hz, hs, _⟩ := info_parts infoSlot
  have he := ext4 hn hk
  simp at he
  simp [Instr.index, asIntOf, Sem.run_bind, run_underlying Try.underlying92, sizeOf, typeInfo, hi, hs, part, he, hk]

/-- Whether all links are in range. -/
def rangeB (ss : List Sl) (f r : Int) : Bool := (ss.all fun s => lnkB s.next) && lnkB f && lnkB r

theorem rangeB_at {ss : List Sl} {k : Nat} (hn : ss.length = 60) (hk : k < 60) (h : lnkB (sl ss k).next = false) (f r : Int) : rangeB ss f r = false := by
  unfold rangeB
  have : (ss.all fun s => lnkB s.next) = false := by
    rw [List.all_eq_false]
    refine ⟨sl ss k, ?_, by rw [h]; simp⟩
    unfold sl
    rw [List.getD_eq_getElem?_getD, List.getElem?_eq_getElem (by omega)]
    exact List.getElem_mem _
  rw [this]; rfl
theorem rangeB_end {ss : List Sl} (hn : ss.length = 60) (h : ∀ k, k < 60 → lnkB (sl ss k).next = true) (f r : Int) : rangeB ss f r = (lnkB f && lnkB r) := by
  unfold rangeB
  have : (ss.all fun s => lnkB s.next) = true := by
    rw [List.all_eq_true]
    intro s hs
    obtain ⟨k, hk, rfl⟩ := List.mem_iff_getElem.1 hs
    have := h k (by omega)
    unfold sl at this
    rwa [List.getD_eq_getElem?_getD, List.getElem?_eq_getElem hk] at this
  rw [this]; simp

set_option maxRecDepth 100000 in
set_option maxHeartbeats 1000000 in
theorem inRange_any (b : Nat) (ss : List Sl) (f l r c : Int) (w : World) (hn : ss.length = 60) (h : Lk w b ss f l r c) :
    Calls Try.prog 130 #[.pointer (some ⟨b, 0, none⟩)] w fun e w' => e = .returned (.bool (rangeB ss f r)) ∧ Below w.heap.size w w' := by
  have HR := Lib.hid (h.range hn)
  have Hsz : Hid ((Try.prog.info? 92).map (·.size) = some (cellsL ss).length) := by show _ = _; rw [infoSlots, cellsL_len, hn]
  have HL := Lib.hid h
  have Hn := Lib.hid hn
  clear h hn
  go_enter Try.func130, Try.ntmps130
  go_wp2_with (refine wpList_load_mid rfl 92 (.tmp 7) rfl b 0 rfl (cellsL ss) _ HR.out Try.underlying92 rfl Hsz.out ?_)
  go_loopw [9] (fun i wr => ∃ k : Nat, k ≤ 60 ∧ i = .int .i64 k ∧ (∀ j, j < k → lnkB (sl ss j).next = true) ∧ Below w.heap.size w wr) (fun i _ => 60 - (intOf i).toNat)
  case atStart => exact ⟨0, Nat.zero_le _, rfl, fun j hj => by omega, Below.refl _ _⟩
  case round =>
    obtain ⟨k, hk, rfl, hq, hbw⟩ := hrel
    have Hq := Lib.hid hq
    clear hq
    by_cases hlt : k < 60
    · have hix := index_slots Hn.out hlt
      have hL := HL.out.below hbw
      obtain ⟨s, hs⟩ : ∃ s, sl ss k = s := ⟨_, rfl⟩
      rw [hs] at hix
      have Hs := Lib.hid hs
      clear hs hL
      cases hb : lnkB s.next
      · have Hb := Lib.hid hb
        clear hb
        go_wp2_with fail
        refine (linkOk_any _ _).mono ?_
        rintro e w' ⟨rfl, rfl⟩
        rw [Hb.out]
        go_wp2
        go_ret
        exact ⟨ret_bool (rangeB_at Hn.out hlt (by rw [Hs.out]; exact Hb.out) f r).symm, hbw.alloc hbw.size _⟩
      · have Hb := Lib.hid hb
        clear hb
        go_wp2_with fail
        refine (linkOk_any _ _).mono ?_
        rintro e w' ⟨rfl, rfl⟩
        rw [Hb.out]
        go_wp2
        go_roundw
        case rel =>
          refine ⟨k + 1, by omega, by go_num, fun j hj => ?_, hbw.alloc hbw.size _⟩
          by_cases e : j = k
          · subst e; rw [Hs.out]; exact Hb.out
          · exact Hq.out j (by omega)
        case measure => simp [intOf]; omega
    · obtain rfl : k = 60 := by omega
      have He := Lib.hid (rangeB_end Hn.out Hq.out f r)
      obtain ⟨n0, _, n2, _, _⟩ := (HL.out.below hbw).nums
      cases h1 : lnkB f
      · have H1 := Lib.hid h1
        clear h1
        go_wp2_with fail
        refine (linkOk_any _ _).mono ?_
        rintro e w' ⟨rfl, rfl⟩
        rw [H1.out]
        go_wp2
        go_ret
        exact ⟨ret_bool (by rw [He.out, H1.out]; rfl), hbw⟩
      · have H1 := Lib.hid h1
        clear h1
        go_wp2_with fail
        refine (linkOk_any _ _).mono ?_
        rintro e w' ⟨rfl, rfl⟩
        rw [H1.out]
        go_wp2_with fail
        refine (linkOk_any _ _).mono ?_
        rintro e w' ⟨rfl, rfl⟩
        go_wp2
        go_ret
        exact ⟨ret_bool (by rw [He.out, H1.out]; rfl), hbw⟩
end Go.Proofs.Ytpjelojmkmednaa.Que

namespace Go.Proofs.Ytpjelojmkmednaa.Rng
open Go.RowKit

/-- The iterator's contract: R is what it reads between two rounds, Nx what it hands out next, S when it ends by itself. -/
def SeqR (P : Program) (gf : Nat) (lb : Array Value) (encs : Nat → Array Value) (R : List Nat → World → Prop) (Nx : List Nat → Nat → Prop) (S : List Nat → Prop) : Prop :=
  ∀ (l : Nat) (J : List Nat → World → Prop) (Jx : World → Prop) (W : World), (∀ pre W1, J pre W1 → R pre W1) →
    (∀ pre x W1, J pre W1 → Nx pre x → YieldAt Fence.wide 1 P l (encs x) W1 fun e W' => (e = .returned (.bool true) ∧ J (pre ++ [x]) W') ∨ (e = .returned (.bool false) ∧ Jx W')) →
    J [] W → CallsIn Fence.wide 2 P gf (#[.func (.yield l) #[] #[]] ++ lb) W fun e W' => (∃ v, e = .returned v) ∧ ((∃ xs, S xs ∧ J xs W') ∨ Jx W')

/-- How a round may be left. -/
def bodyEnds (B : Nat) (I : List Nat → World → Prop) (Ix : Code → World → Prop) (xs : List Nat) (W : World) : Exit → Act → World → Prop
  | .normal, _, W' => KeepsFrom B W W' ∧ I xs W'
  | .ret, _, W' => KeepsFrom B W W' ∧ Ix .ret W'
  | .exit id, _, W' => KeepsFrom B W W' ∧ Ix (.exit id) W'
  | .goto t, _, W' => KeepsFrom B W W' ∧ Ix (.goto t) W'
  | .panic _, _, _ => False
  | .outgrown, _, _ => False

/-- What the loop's two blocks hold: its record at B + 1, the block for deferred calls at B. -/
def Books (B : Nat) (rec : Loop) (W : World) : Prop := W.heap[B + 1]? = some (.loop rec) ∧ W.heap[B]? = some (.deferred (some []))

theorem Books.turn {B : Nat} {rec : Loop} {W : World} (h : Books B rec W) (rec' : Loop) : Books B rec' (W.putObj (B + 1) (.loop rec')) :=
  ⟨World.putObj_heap_same (Array.getElem?_eq_some_iff.1 h.1).1, (World.putObj_heap_other (by omega)).trans h.2⟩
theorem Books.keeps {B : Nat} {rec : Loop} {W W' : World} (h : Books B rec W) (k : KeepsFrom B W W') : Books B rec W' :=
  ⟨k.same _ _ (by omega) h.1 rfl, k.same _ _ (Nat.le_refl _) h.2 rfl⟩

set_option maxRecDepth 100000 in
set_option maxHeartbeats 400000 in
theorem range_wide {P : Program} {g : Operand} {ps : Array Tmp} {assign body : Code} {Q : Exit → Act → World → Prop} {a : Act} {w : World} {gf : Nat} {lb : Array Value}
    (hg : a.eval g = .func (.func gf) #[] lb) (eg : ∀ args w, (callFunc gf args).run P w = .ok (.enter gf args) w)
    {encs : Nat → Array Value} {R : List Nat → World → Prop} {Nx : List Nat → Nat → Prop} {S : List Nat → Prop} (hseq : SeqR P gf lb encs R Nx S) (hps : ∀ x, (encs x).size = ps.size)
    (I : List Nat → World → Prop) (Ix : Code → World → Prop) (hI : OwnFrom w.heap.size I) (hIx : ∀ c, OwnFrom w.heap.size (fun (_ : Unit) W => Ix c W)) (hR : ∀ pre W, I pre W → R pre W) (h0 : I [] w) (a₁ : Nat → Act)
    (hassign : ∀ (l x : Nat) (W : World) (K : Act → World → Prop), K (a₁ x) W →
      assign.wpIn (Fence.wide.inRound l) 1 P (Exit.then K (fun _ _ _ => False)) { tmps := (ps.zip (encs x)).foldl (fun t (p, v) => t.setIfInBounds p v) a.tmps, defers := [] } W)
    (hbody : ∀ (l : Nat) (pre : List Nat) (x : Nat) (W : World), I pre W → Nx pre x → body.wpIn (Fence.wide.inRound l) 1 P (bodyEnds w.heap.size I Ix (pre ++ [x]) W) (a₁ x) W)
    (hdone : ∀ (D : Nat) (xs : List Nat) (W : World), w.heap.size ≤ D → S xs → I xs W → W.heap[D]? = some (.deferred (some [])) → Q .normal { a with defers := { target := .collected D, args := #[] } :: a.defers } W)
    (hstop : ∀ (D : Nat) (c : Code) (W : World), w.heap.size ≤ D → Ix c W → W.heap[D]? = some (.deferred (some [])) → c.wpIn Fence.wide 3 P Q { a with defers := { target := .collected D, args := #[] } :: a.defers } W) :
    (Code.rangeFunc g ps assign body).wpIn Fence.wide 3 P Q a w := by
  refine wpIn_rangeFunc ?_
  intro fn hfn
  obtain ⟨B, hB⟩ : ∃ B, w.heap.size = B := ⟨_, rfl⟩
  obtain ⟨rec, hrec⟩ : ∃ rec : LoopState → Option Code → Loop, rec = fun st pe => { state := st, pending := pe, fn, tmps := a.tmps, params := ps, assign, body, defers := B } := ⟨_, rfl⟩
  obtain ⟨W1, hW1⟩ : ∃ W1, (w.alloc (.deferred (some []))).alloc (.loop (rec .ready none)) = W1 := ⟨_, rfl⟩
  have k1 : Books B (rec .ready none) W1 := by
    rw [← hW1]
    refine ⟨?_, (Below.heap_alloc _ _ _ (by simp [hB])).trans (by rw [← hB]; exact World.alloc_heap_new w _)⟩
    have := World.alloc_heap_new (w.alloc (.deferred (some []))) (.loop (rec .ready none))
    rwa [World.size_alloc, hB] at this
  have i1 : I [] W1 := by rw [← hW1]; exact hI.alloc _ (hI.alloc _ h0)
  rw [hB] at hI hIx hbody hdone hstop
  have turnI : ∀ {s : List Nat} {W : World} {r r' : Loop}, I s W → Books B r W → I s (W.putObj (B + 1) (.loop r')) := fun hi hk => hI.putObj _ hi (by omega) hk.1 rfl
  have turnX : ∀ {c : Code} {W : World} {r r' : Loop}, Ix c W → Books B r W → Ix c (W.putObj (B + 1) (.loop r')) := fun {c} {W} {r} {r'} hi hk => (hIx c).putObj (s := ()) _ hi (by omega) hk.1 rfl
  refine ⟨B + 1, [{ target := .collected B, args := #[] }], W1, { target := .fn (.func gf) lb, args := #[.func (.yield (B + 1)) #[] #[]] }, W1, gf, #[.func (.yield (B + 1)) #[] #[]] ++ lb, W1, ?_, ?_, ?_, ?_, fun _ => by omega, ?_⟩
  · rw [← hW1, hrec, ← hB]; exact run_enterLoop_outer _ _ _ _ _
  · simp only [resolve, hg]
    simp [go_sem]
  · intro f' _; trivial
  · simp [invoke, go_sem, eg]
  refine (hseq (B + 1) (fun pre W => I pre W ∧ Books B (rec .ready none) W) (fun W => ∃ c, Ix c W ∧ Books B (rec .done (some c)) W) W1 (fun pre W h => hR pre W h.1) ?_ ⟨i1, k1⟩).mono ?_
  · rintro pre x W ⟨hi, hk⟩ hnx
    have hy := run_yield (P := P) (args := encs x) hk.1 (by rw [hrec]; exact hps x)
    rw [hrec] at hy
    refine ⟨fn, _, assign, body, hy, roundIn_of_wpIn hfn (hassign _ x W _ ⟨_, run_beginRound hk.1 (by rw [hrec]), ?_⟩)⟩
    have hk2 := hk.turn { rec .ready none with state := .busy }
    refine wpIn_mono (hbody _ pre x _ (turnI hi hk) hnx) ?_
    have ends : ∀ (jump : Option Code) (W3 : World), KeepsFrom B (W.putObj (B + 1) (.loop { rec .ready none with state := .busy })) W3 →
        Books B { rec .ready none with state := .busy } W3 ∧ (Instr.endRound (B + 1) jump).run P W3 = .ok (.bool jump.isNone) (W3.putObj (B + 1) (.loop (rec (if jump.isNone then .ready else .done) jump))) := fun jump W3 k3 => by
      have b3 := hk2.keeps k3
      have := run_endRound (P := P) jump b3.1
      rw [hrec] at this b3 ⊢
      exact ⟨b3, this⟩
    rintro e a3 W3 hp
    cases e with
    | normal =>
      obtain ⟨k3, i3⟩ := hp
      obtain ⟨b3, hr⟩ := ends none W3 k3
      exact ⟨_, _, hr, .inl ⟨rfl, turnI i3 b3, b3.turn _⟩⟩
    | ret =>
      obtain ⟨k3, i3⟩ := hp
      obtain ⟨b3, hr⟩ := ends (some .ret) W3 k3
      exact ⟨_, _, hr, .inr ⟨rfl, .ret, turnX i3 b3, b3.turn _⟩⟩
    | exit id =>
      obtain ⟨k3, i3⟩ := hp
      obtain ⟨b3, hr⟩ := ends (some (.exit id)) W3 k3
      exact ⟨_, _, hr, .inr ⟨rfl, .exit id, turnX i3 b3, b3.turn _⟩⟩
    | goto t =>
      obtain ⟨k3, i3⟩ := hp
      obtain ⟨b3, hr⟩ := ends (some (.goto t)) W3 k3
      exact ⟨_, _, hr, .inr ⟨rfl, .goto t, turnX i3 b3, b3.turn _⟩⟩
    | panic ch => exact hp.elim
    | outgrown => exact hp.elim
  · rintro e W2 ⟨⟨v, rfl⟩, (⟨xs, hS, hi, hk⟩ | ⟨c, hi, hk⟩)⟩
    · exact ⟨none, _, by have := run_endLoop (P := P) hk.1 (by rw [hrec]; simp); rw [hrec] at this; exact this, hdone _ xs _ (Nat.le_refl _) hS (turnI hi hk) ((World.putObj_heap_other (by omega)).trans hk.2)⟩
    · exact ⟨some c, _, by have := run_endLoop (P := P) hk.1 (by rw [hrec]; simp); rw [hrec] at this; exact this, hstop _ c _ (Nat.le_refl _) (turnX hi hk) ((World.putObj_heap_other (by omega)).trans hk.2)⟩
end Go.Proofs.Ytpjelojmkmednaa.Rng

namespace Go.Proofs.Ytpjelojmkmednaa.Que
open Go.RowKit Go.Deep Base Rng
attribute [local go_sem] Oper.semAt_some

/-- Where the walk from start on stands when the places pre have come. -/
def cur (ss : List Sl) (start : Int) (pre : List Nat) : Int := match pre.getLast? with
  | none => start
  | some x => (sl ss x).next

theorem cur_nil (ss : List Sl) (start : Int) : cur ss start [] = start := rfl
theorem cur_snoc (ss : List Sl) (start : Int) (pre : List Nat) (x : Nat) : cur ss start (pre ++ [x]) = (sl ss x).next := by simp [cur]

/-- All links are in range. -/
def InR (ss : List Sl) (start : Int) : Prop := (-1 ≤ start ∧ start ≤ 59) ∧ ∀ i, i < 60 → -1 ≤ (sl ss i).next ∧ (sl ss i).next ≤ 59

theorem cur_range {ss : List Sl} {start : Int} {pre : List Nat} (h : InR ss start) (hl : ∀ x ∈ pre, x < 60) : cur ss start pre = -1 ∨ ∃ k : Nat, cur ss start pre = (k : Int) ∧ k < 60 := by
  have h1 : -1 ≤ cur ss start pre ∧ cur ss start pre ≤ 59 := by
    rcases List.eq_nil_or_concat pre with rfl | ⟨r, x, rfl⟩
    · exact h.1
    · rw [List.concat_eq_append, cur_snoc]
      exact h.2 x (hl x (by simp))
  by_cases e : cur ss start pre = -1
  · exact .inl e
  · exact .inr ⟨(cur ss start pre).toNat, by omega, by omega⟩

def fEnc (x : Nat) : Array Value := #[.int .i64 (x : Int)]

/-- What the iterator reads between two rounds: its two boxes and the links; and the rounds are few. -/
structure FR (bs bl b : Nat) (ss : List Sl) (f l r c start : Int) (pre : List Nat) (W : World) : Prop where
  sb : W.cell? ⟨bs, 0, none⟩ = some (.int .i64 start)
  lb : W.cell? ⟨bl, 0, none⟩ = some (.pointer (some ⟨b, 0, none⟩))
  lk : Lk W b ss f l r c
  lt : ∀ x ∈ pre, x < 60
  few : pre.length ≤ 60

def FNx (ss : List Sl) (start : Int) (pre : List Nat) (x : Nat) : Prop := cur ss start pre = (x : Int) ∧ x < 60
def FS (ss : List Sl) (start : Int) (xs : List Nat) : Prop := cur ss start xs = -1

set_option maxRecDepth 100000 in
theorem follow_any (b : Nat) (start : Int) (w : World) :
    Calls Try.prog 97 #[.pointer (some ⟨b, 0, none⟩), .int .i64 start] w fun e w' => e = .returned (.func (.func 125) #[] #[.pointer (some ⟨w.heap.size + 1, 0, none⟩), .pointer (some ⟨w.heap.size, 0, none⟩)])
      ∧ (w.alloc (.cells #[.pointer (some ⟨b, 0, none⟩)] 128)).alloc (.cells #[.int .i64 start] 3) = w' := by
  have hmf : ∀ (fn : Fn) (first cap : Array Value) (w : World), (Instr.makeFunc fn first cap).run Try.prog w = .ok (.func fn first cap) w := fun _ _ _ _ => rfl
  go_enter Try.func97, Try.ntmps97
  go_wp2
  go_ret
  exact ⟨rfl, rfl⟩

set_option maxRecDepth 100000 in
set_option maxHeartbeats 1000000 in
theorem follow1_seq (bs bl b : Nat) (ss : List Sl) (f l r c start : Int) (hin : InR ss start) :
    SeqR Try.prog 125 #[.pointer (some ⟨bs, 0, none⟩), .pointer (some ⟨bl, 0, none⟩)] fEnc (FR bs bl b ss f l r c start) (FNx ss start) (FS ss start) := by
  intro lp J Jx W hJ hY h0
  have HJ := Lib.hid hJ
  have HY := Lib.hid hY
  have Hin := Lib.hid hin
  clear hJ hY hin
  have hsb := (HJ.out _ _ h0).sb
  have H0 := Lib.hid h0
  clear h0
  refine callsIn_of_wp Try.func125 rfl trivial ?_ rfl
  simp only [Try.ntmps125, List.size_toArray, List.length_cons, List.length_nil, Nat.reduceAdd, Nat.reduceSub, Array.replicate_succ, Array.replicate_zero, List.push_toArray, List.append_toArray, List.nil_append, List.cons_append]
  gi_wp2
  gi_loopg [4] 61 (fun k p wr => ∃ pre, 61 ≤ k + pre.length ∧ p = .int .i64 (cur ss start pre) ∧ J pre wr)
  case atStart => exact ⟨[], by simp, rfl, H0.out⟩
  case round =>
    obtain ⟨pre, hk, rfl, hj⟩ := hrel
    have hR := HJ.out _ _ hj
    rcases cur_range Hin.out hR.lt with hc | ⟨k, hc, hk60⟩
    · have Hc := Lib.hid hc
      rw [hc]
      clear hc
      gi_wp2
      refine ⟨fun _ h => (by cases h), ?_⟩
      gi_wp2
      go_end0
      exact ⟨⟨_, rfl⟩, .inl ⟨pre, Hc.out, hj⟩⟩
    · have Hc := Lib.hid hc
      rw [hc]
      clear hc
      obtain ⟨fn, tmps, assign, body, hy, hRd⟩ := HY.out pre k wr hj ⟨Hc.out, hk60⟩
      have hk1 : ((k : Int) != -1) = true := by rw [bne_iff_ne]; omega
      have hk2 : ((k : Int) == -1) = false := beq_eq_false_iff_ne.2 (by omega)
      have Hj := Lib.hid hj
      have Hk := Lib.hid hk
      clear hj hk hR
      dsimp only [fEnc] at hy
      gi_wp2
      refine hRd.mono ?_
      rintro e W2 (⟨rfl, hj2⟩ | ⟨rfl, hx⟩)
      · have hR2 := HJ.out _ _ hj2
        have hlb := hR2.lb
        obtain ⟨_, _, c2, _⟩ := hR2.lk.slot hk60
        have Hf := Lib.hid hR2.few
        have Hcs := Lib.hid (cur_snoc ss start pre k)
        rw [← Hcs.out] at c2
        have Hj2 := Lib.hid hj2
        clear hj2 hR2 hy hRd
        gi_wp2
        gi_roundg (gk - 1)
        case measure =>
          have := Hk.out
          have := Hf.out
          rw [List.length_append, List.length_singleton] at this
          omega
        case rel =>
          refine ⟨pre ++ [k], ?_, rfl, Hj2.out⟩
          have := Hk.out
          rw [List.length_append, List.length_singleton]
          omega
      · gi_wp2
        go_end0
        exact ⟨⟨_, rfl⟩, .inr hx⟩
end Go.Proofs.Ytpjelojmkmednaa.Que

namespace Go.Proofs.Ytpjelojmkmednaa.Que
open Go.RowKit Go.Deep Base

def entry (x : Int) (i : Nat) : MapEntry := { key := .int .i64 x, val := .bool true, born := i }
def entries : List Int → Nat → List MapEntry
  | [], _ => []
  | x :: r, i => entry x i :: entries r (i + 1)
def mapObj (ids : List Int) : Obj := .map (entries ids 0).toArray ids.length

theorem entries_len : ∀ (ids : List Int) (i : Nat), (entries ids i).length = ids.length
  | [], _ => rfl
  | _ :: r, i => by simp [entries, entries_len r (i + 1)]
theorem entries_snoc : ∀ (ids : List Int) (x : Int) (i : Nat), entries (ids ++ [x]) i = entries ids i ++ [entry x (i + ids.length)]
  | [], x, i => by simp [entries]
  | y :: r, x, i => by
    simp [entries, entries_snoc r x (i + 1)]
    rw [show i + 1 + r.length = i + (r.length + 1) from by omega]

theorem find_now (x : Int) : ∀ (ids : List Int) (i k : Nat), ∃ r, Instr.findNow (.int .i64) (.int .i64 x) (entries ids i) k = some r ∧ (r.map (·.2)) = if ids.contains x then some (.bool true) else none
  | [], i, k => ⟨none, rfl, rfl⟩
  | y :: r, i, k => by
    by_cases e : x = y
    · subst e
      refine ⟨some (k, .bool true), ?_, ?_⟩
      · simp [entries, entry, Instr.findNow, Instr.sameNow]
      · simp
    · obtain ⟨q, h1, h2⟩ := find_now x r (i + 1) (k + 1)
      refine ⟨q, ?_, ?_⟩
      · have hb : (x == y) = false := beq_eq_false_iff_ne.2 e
        simp [entries, entry, Instr.findNow, Instr.sameNow, hb, h1]
      · rw [h2]; simp [e]

theorem check_int (b : Bool) (x : Int) (w : World) : (Instr.checkKey b 10000 3 (.int .i64 x)).run Try.prog w = .ok () w := by
  unfold Instr.checkKey
  simp [Sem.run_bind, run_underlying Try.underlying3]

theorem find_key (x : Int) (ids : List Int) (w : World) : ∃ r, (Instr.findKey 3 (.int .i64 x) (entries ids 0)).run Try.prog w = .ok r w ∧ (r.map (·.2)) = if ids.contains x then some (.bool true) else none := by
  obtain ⟨r, h1, h2⟩ := find_now x ids 0 0
  exact ⟨r, by simp [Instr.findKey, Sem.run_bind, run_underlying Try.underlying3, h1], h2⟩

theorem get_map {w : World} {mb : Nat} {ids : List Int} (h : w.heap[mb]? = some (mapObj ids)) : (getObj mb).run Try.prog w = .ok (mapObj ids) w := by simp [getObj, Sem.run, h, mapObj]

theorem look_ids {w : World} {mb : Nat} {ids : List Int} (h : w.heap[mb]? = some (mapObj ids)) (x : Int) : (Instr.lookup 123 (.map (some mb)) (.int .i64 x) false).run Try.prog w = .ok (.bool (ids.contains x)) w := by
  obtain ⟨r, h1, h2⟩ := find_key x ids w
  have hz : (zeroValue 4).run Try.prog w = .ok (.bool false) w := Try.zeroValue4 w
  have hg := get_map h
  have he : ∀ b, (Instr.checkKey b 10000 3 (.int .i64 x)).run Try.prog w = .ok () w := fun b => check_int b x w
  cases hc : ids.contains x
  · rw [hc] at h2
    have : r = none := by simpa using h2
    subst this
    simp [Instr.lookup, Sem.run_bind, run_underlying Try.underlying123, hg, mapObj, he, h1, hz]
  · rw [hc] at h2
    obtain ⟨q, rfl, hq⟩ : ∃ q, r = some q ∧ q.2 = .bool true := by simpa using h2
    obtain ⟨q1, q2⟩ := q
    simp at hq
    subst hq
    simp [Instr.lookup, Sem.run_bind, run_underlying Try.underlying123, hg, mapObj, he, h1]

theorem put_ids {w : World} {mb : Nat} {ids : List Int} (h : w.heap[mb]? = some (mapObj ids)) {x : Int} (hx : ids.contains x = false) :
    (Instr.mapUpdate 123 (.map (some mb)) (.int .i64 x) (.bool true)).run Try.prog w = .ok () (w.putObj mb (mapObj (ids ++ [x]))) := by
  obtain ⟨r, h1, h2⟩ := find_key x ids w
  rw [hx] at h2
  have : r = none := by simpa using h2
  subst this
  have hg := get_map h
  have hs : (setObj mb (mapObj (ids ++ [x]))).run Try.prog w = .ok () (w.putObj mb (mapObj (ids ++ [x]))) := by simp [setObj, Sem.run, h, World.putObj, mapObj]
  have e2 : mapObj (ids ++ [x]) = Obj.map (entries ids 0 ++ [({ key := .int .i64 x, val := .bool true, born := ids.length } : MapEntry)]).toArray (ids.length + 1) := by simp [mapObj, entries_snoc, entry]
  have he := check_int false x w
  unfold mapObj at hg
  simp [Instr.mapUpdate, Sem.run_bind, run_underlying Try.underlying123, hg, he, h1]
  rw [e2] at hs ⊢
  exact hs

/-- Whether the n bools f 0, f 1, .. are all true. -/
def allT (n : Nat) (f : Nat → Bool) : Bool := (List.range n).all f
theorem allT_false {n k : Nat} {f : Nat → Bool} (hk : k < n) (h : f k = false) : allT n f = false := by
  unfold allT; rw [List.all_eq_false]; exact ⟨k, List.mem_range.2 hk, by rw [h]; simp⟩
theorem allT_true {n : Nat} {f : Nat → Bool} (h : ∀ k, k < n → f k = true) : allT n f = true := by
  unfold allT; rw [List.all_eq_true]; exact fun k hk => h k (List.mem_range.1 hk)

def IdxB (n : Nat) (f : Nat → Bool) (w : World) (e : Ending) (w' : World) : Prop := (∃ k : Int, e = .returned (.int .i64 k) ∧ decide (0 ≤ k) = !(allT n f)) ∧ w = w'

set_option maxRecDepth 100000 in
set_option maxHeartbeats 400000 in
theorem indexB_any (g n cap : Nat) (f : Nat → Bool) (w : World) (hm : n ≤ 1048576) (h : ∀ i, i < n → w.cell? ⟨g, i, none⟩ = some (.bool (f i))) :
    Calls Try.prog 136 #[.slice (some ⟨g, 0, none⟩) n cap, .bool false] w (IdxB n f w) := by
  have HI := Lib.hid h
  clear h
  go_enter Try.func136, Try.ntmps136
  go_wp2
  go_loop [8] (fun i => ∃ k : Nat, k ≤ n ∧ i = .int .i64 k ∧ ∀ j, j < k → f j = true) (fun i => n - (intOf i).toNat)
  case atStart => exact ⟨0, Nat.zero_le _, rfl, fun j hj => by omega⟩
  case round =>
    obtain ⟨k, hk, rfl, hq⟩ := hrel
    have Hq := Lib.hid hq
    clear hq
    by_cases hlt : k < n
    · have hc := HI.out k hlt
      cases hf : f k
      · have Hf := Lib.hid hf
        rw [hf] at hc
        clear hf
        go_wp2
        go_ret
        exact ⟨⟨k, rfl, by rw [allT_false hlt Hf.out]; simp⟩, rfl⟩
      · have Hf := Lib.hid hf
        rw [hf] at hc
        clear hf
        go_wp2
        go_round
        case rel =>
          refine ⟨k + 1, by omega, by go_num, fun j hj => ?_⟩
          by_cases e : j = k
          · subst e; exact Hf.out
          · exact Hq.out j (by omega)
        case measure => simp [intOf]; omega
    · obtain rfl : k = n := by omega
      go_wp2
      go_ret
      exact ⟨⟨-1, rfl, by rw [allT_true Hq.out]; rfl⟩, rfl⟩

set_option maxRecDepth 100000 in
theorem contB_any (g n cap : Nat) (f : Nat → Bool) (w : World) (hm : n ≤ 1048576) (h : ∀ i, i < n → w.cell? ⟨g, i, none⟩ = some (.bool (f i))) :
    Calls Try.prog 133 #[.slice (some ⟨g, 0, none⟩) n cap, .bool false] w fun e w' => e = .returned (.bool (!(allT n f))) ∧ w = w' := by
  have HI := Lib.hid h
  clear h
  go_enter Try.func133, Try.ntmps133
  go_wp2_with fail
  refine (indexB_any g n cap f _ hm HI.out).mono ?_
  rintro e w' ⟨⟨k, rfl, hk⟩, rfl⟩
  have Hk := Lib.hid hk
  clear hk
  go_wp2
  go_ret
  exact ⟨ret_bool Hk.out, rfl⟩
end Go.Proofs.Ytpjelojmkmednaa.Que

namespace Go.Proofs.Ytpjelojmkmednaa.Rng
open Go.RowKit

section
variable {P : Program} {ops : Array Oper} {md : Region.Mode} {lp m : Nat} {Q : Exit → Act → World → Prop}

/-- No operation defers a call. -/
def NoDefer (ops : Array Oper) : Prop := ∀ (i : Nat) (o : Oper), ops[i]? = some o → ∀ c, o.op ≠ .defer c

def noDeferB (ops : Array Oper) : Bool := ops.all fun o => match o.op with
  | .defer _ => false
  | _ => true

theorem noDefer_of {ops : Array Oper} (h : noDeferB ops = true) : NoDefer ops := fun i o ho c e => by
  have h1 := (Array.all_eq_true_iff_forall_mem.1 h) o (Array.mem_of_getElem? ho)
  rw [e] at h1
  cases h1

theorem opIn_of_stOp (hd : NoDefer ops) {w : World} {i : Nat} {a : Act} {K : Act → Prop} {K' : Act → World → Prop} (h : stOp P ops w i K a) (hk : ∀ a', K a' → K' a' w) : wpOpIn (Fence.wide.inRound lp) m P ops Q i K' a w := by
  unfold wpOpIn
  cases ho : ops[i]? with
  | none => unfold stOp at h; simp only [ho] at h; exact hk _ h
  | some o =>
    simp only
    obtain ⟨v, hy, hK⟩ := yieldsAt_of_stOp ho h
    have hs : o.semAt (some lp) a.eval = execOp a.eval o := Oper.semAt_some lp _ _ (hd i o ho)
    rcases hy with ⟨hw, hv | ⟨hv, rfl⟩ | ⟨f, args, hv, hc⟩⟩ | ⟨hw, rfl⟩
    · rw [if_pos hw]
      refine ⟨fun _ _ => trivial, ?_⟩
      show o.uponIn _ _ _ _ _ _ ((o.semAt (some lp) a.eval).run P w)
      rw [hs, hv]
      exact hk _ hK
    · rw [if_pos hw]
      refine ⟨fun _ _ => trivial, ?_⟩
      show o.uponIn _ _ _ _ _ _ ((o.semAt (some lp) a.eval).run P w)
      rw [hs, hv]
      exact hk _ hK
    · rw [if_pos hw]
      refine ⟨fun _ _ => trivial, ?_⟩
      show o.uponIn _ _ _ _ _ _ ((o.semAt (some lp) a.eval).run P w)
      rw [hs, hv, Oper.uponIn_enter]
      refine ⟨fun h => (by cases h), CallsIn.inRound lp ((callsIn_wide.2 hc).mono ?_)⟩
      rintro e w'' ⟨rfl, rfl⟩
      exact hk _ hK
    · rw [if_neg (by rw [hw]; simp)]
      exact ⟨fun _ _ => trivial, hk _ hK⟩

theorem anyIn_of_head (hd : NoDefer ops) {w : World} {n g : Nat} {L : Array Bool → Act → Prop} (hL : ∀ listed a, L listed a → wpAnyIn (Fence.wide.inRound lp) m P md ops Q g listed a w) :
    ∀ (f : Nat) (listed : Array Bool) (a : Act), wpAnyL P md ops w n L f listed a → wpAnyIn (Fence.wide.inRound lp) m P md ops Q (f + g) listed a w
  | 0, listed, a, h => by rw [Nat.zero_add]; exact hL _ _ h
  | f + 1, listed, a, h => by
    rw [show f + 1 + g = (f + g) + 1 from by omega]
    exact ⟨fun h0 => absurd h0 h.1, fun i hi => opIn_of_stOp hd (h.2 i hi).2 (fun a' h' => anyIn_of_head hd hL f _ a' h')⟩

theorem anyIn_of_seq : ∀ (l : List Oper) (k : Nat) (listed : Array Bool) (a : Act) (w : World), (∀ j, l[j]? = ops[k + j]?) →
    Region.seqB md ops l.length k listed = true → wpListIn (Fence.wide.inRound lp) m P ops Q l a w → wpAnyIn (Fence.wide.inRound lp) m P md ops Q l.length listed a w
  | [], _, _, _, _, _, hB, h => ⟨by simpa [Region.seqB] using hB, h⟩
  | o :: l, k, listed, a, w, hl, hB, h => by
    have h0 : ops[k]? = some o := by simpa using (hl 0).symm
    simp only [List.length_cons, Region.seqB, Bool.and_eq_true, decide_eq_true_eq] at hB
    refine ⟨fun h1 => (by rw [hB.1] at h1; cases h1), fun i hi => ?_⟩
    rw [hB.1] at hi
    obtain rfl : i = k := by simpa using hi
    have hw : wpOpIn (Fence.wide.inRound lp) m P ops Q i (wpListIn (Fence.wide.inRound lp) m P ops Q l) a w := by unfold wpOpIn; simp only [h0]; exact h
    exact wpOpIn_mono (fun a' w' h' => anyIn_of_seq l (i + 1) _ a' w' (fun j => by have := hl (j + 1); simpa [Nat.add_assoc, Nat.add_comm 1 j] using this) hB.2 h') hw

theorem still_round {id : Nat} {a : Act} {w : World} {l : List Oper} (n : Nat) (hm : P.follows .mixedOrders = true) (hB : Region.lexTailB .any l.toArray n = true) (hd : noDeferB l.toArray = true)
    (h : wpStill P l.toArray w.drew (fun a' => wpListIn (Fence.wide.inRound lp) m P l.toArray Q (l.drop n) a' w.drew) (l.take n) a) : (Code.region id l.toArray true).wpIn (Fence.wide.inRound lp) m P Q a w := by
  simp only [Region.lexTailB, Bool.and_eq_true, decide_eq_true_eq] at hB
  obtain ⟨⟨⟨⟨hsel, hn⟩, hs⟩, hc⟩, hlex⟩ := hB
  have hn' : n < l.length := by simpa using hn
  have htl : (l.take n).length = n := by simp; omega
  have hdl : (l.drop n).length = l.toArray.size - n := by simp
  have inv0 : HeadInv .any l.toArray n (Array.replicate l.toArray.size false) :=
    ⟨by simp, fun j oj _ hl => (by rw [getD_replicate_false] at hl; cases hl), fun t _ ht => getD_in (by simpa using ht) (getD_replicate_false _ _)⟩
  have H := wpAnyL_lex (md := .any) (g := l.toArray.size - n) hsel hs hc hn (l.take n) 0 _ a (fun j hj => by
    have hj' : j < n := by rw [htl] at hj; exact hj
    simp [hj']) (by simpa using htl) inv0 (by rw [htl]; exact hlex) h
  refine wpIn_region_any hm ?_
  have key := anyIn_of_head (lp := lp) (m := m) (Q := Q) (noDefer_of hd) (g := l.toArray.size - n) (fun listed a' hL => by
    have := anyIn_of_seq (md := .any) (lp := lp) (m := m) (Q := Q) (l.drop n) n listed a' w.drew (fun j => by simp [List.getElem?_drop]) (by rw [hdl]; exact hL.1) hL.2
    rwa [hdl] at this) _ _ _ H
  rw [htl, show n + (l.toArray.size - n) = l.toArray.size from by omega] at key
  exact key

theorem op_round {o : Oper} {a : Act} {w : World} {K : Act → World → Prop} (hd : ∀ c, o.op ≠ .defer c) (h : o.wp P a w K Q) : o.wpIn (Fence.wide.inRound lp) m P a w K Q := by
  refine ⟨fun _ _ => trivial, ?_⟩
  show o.uponIn _ _ _ _ _ _ ((o.semAt (some lp) a.eval).run P w)
  rw [Oper.semAt_some lp _ _ hd]
  unfold Oper.wp at h
  generalize (execOp a.eval o).run P w = r at *
  cases r with
  | ok n w' =>
    cases n <;> simp only [Oper.upon, Oper.uponIn] at h ⊢
    case value u => exact h
    case skip => exact h
    case defer d => exact h
    case enter f args => exact ⟨fun h => (by cases h), CallsIn.inRound lp (callsIn_wide.2 h)⟩
    case row row args => exact ⟨fun h => (by cases h), fun c cs _ => let ⟨v, w'', hr, hs⟩ := h c cs; ⟨v, w'', hr, stepsIn_wide.2 hs⟩⟩
  | halt x w' => cases x <;> simp only [Oper.upon, Oper.uponIn] at h ⊢ <;> exact h

theorem anyIn_of_any (hd : NoDefer ops) (hlo : ¬ LetsOut Q) : ∀ (fuel : Nat) (listed : Array Bool) (a : Act) (w : World), wpAny P md ops Q fuel listed a w → wpAnyIn (Fence.wide.inRound lp) m P md ops Q fuel listed a w
  | 0, _, _, _, h => h
  | fuel + 1, listed, a, w, h => by
    refine ⟨h.1, fun i hi => ?_⟩
    have h1 := h.2 i hi
    refine wpOpIn_mono (fun a' w' h' => anyIn_of_any hd hlo fuel _ a' w' h') ?_
    unfold wpOp at h1
    unfold wpOpIn
    cases ho : ops[i]? with
    | none => simp only [ho] at h1; exact h1
    | some o =>
      simp only [ho] at h1 ⊢
      split
      · rename_i hw
        simp only [hw, if_true] at h1
        rcases h1 with h1 | ⟨_, h1⟩
        · exact op_round (hd i o ho) h1
        · exact absurd h1 hlo
      · rename_i hw
        simp only [hw] at h1
        exact ⟨fun _ _ => trivial, h1⟩

theorem held_round {id : Nat} {a : Act} {w : World} (S : World → Prop) (hm : P.follows .mixedOrders = true) (hd : noDeferB ops = true) (hlo : ¬ LetsOut Q)
    (h : wpAnyH P .any ops Q S ops.size (Array.replicate ops.size false) a w.drew) : (Code.region id ops true).wpIn (Fence.wide.inRound lp) m P Q a w :=
  wpIn_region_any hm (anyIn_of_any (noDefer_of hd) hlo _ _ _ _ (wpAny_of_held _ _ _ _ h))
end
end Go.Proofs.Ytpjelojmkmednaa.Rng
