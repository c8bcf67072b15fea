/- What linkOk, idOk and linksInRange answer. A range over a function whose rounds the CALLER bounds: what the iterator hands out next is told to the body, and the iterator may lean on what the caller's invariant says (so a list that leads back into itself is borne, where the body ends the loop). The contracts of follow and of the iterator that it makes. A map from Ids to true that a call makes, in memory: its look-up, its store, its length. Whether a row of bools has a false. A region that draws its order inside a round of a range over a function: what only reads is taken in the text's order, then the rest, where the rest stands in one forced order. What placeOf answers on a valid queue. What freeOk answers, and which marks it leaves. What usedOk answers, and which marks it leaves. What valid answers. The slots of a slice as an array: what linksOf's struct literal builds; whole loads and stores of the program's form. What linksOf answers. What QueueOk answers. The law of QueueOk walked. -/
import Derived.Test.YtehdbdolhkflcaaNq1
import Derived.RangeFuncNested
import Derived.RangeFuncLeaves
import Derived.WalkKit
import Derived.Shelf.Abstract
import Derived.OwnWalkIn
import Derived.TacticsInMore
import Derived.LoopNIn
import Derived.LoopIn
import Derived.Sort.LoopGhostIn
import Derived.StillTailTactics
import Derived.OrdersIn
import Derived.OrdersHeld
import Derived.RangeFuncCalls
import Derived.Shelf.RegionOpen
import Derived.Laws.Tables
import Derived.Lib.LazyBuf
namespace Go.Proofs.Ytehdbdolhkflcaa.Que
open Go.RowKit Go.Deep Base

def lnkB (x : Int) : Bool := decide (-1 ≤ x) && decide (x < 60)
theorem lnkB_true {x : Int} (h1 : -1 ≤ x) (h2 : x < 60) : lnkB x = true := by simp [lnkB, h1, h2]
theorem lnkB_false {x : Int} (h : x < -1 ∨ 60 ≤ x) : lnkB x = false := by
  unfold lnkB
  rcases h with h | h
  · rw [decide_eq_false (by omega)]; rfl
  · rw [decide_eq_false (p := x < 60) (by omega)]; simp
set_option maxRecDepth 100000 in
theorem linkOk_any (x : Int) (w : World) : Calls Try.prog 137 #[.int .i64 x] w fun e w' => e = .returned (.bool (lnkB x)) ∧ w = w' := by
  by_cases h0 : -1 ≤ x
  · by_cases h1 : x < 60
    · go_enter Try.func137, Try.ntmps137
      go_wp2
      go_ret
      exact ⟨ret_bool (lnkB_true h0 h1).symm, rfl⟩
    · go_enter Try.func137, Try.ntmps137
      go_wp2
      go_ret
      exact ⟨ret_bool (lnkB_false (by omega)).symm, rfl⟩
  · go_enter Try.func137, Try.ntmps137
    go_wp2
    go_ret
    exact ⟨ret_bool (lnkB_false (by omega)).symm, rfl⟩

def idB (x : Int) : Bool := decide (1 ≤ x) && decide (x ≤ 1000000000)
theorem idB_true {x : Int} (h1 : 1 ≤ x) (h2 : x ≤ 1000000000) : idB x = true := by simp [idB, h1, h2]
theorem idB_false {x : Int} (h : x < 1 ∨ 1000000000 < x) : idB x = false := by
  unfold idB
  rcases h with h | h
  · rw [decide_eq_false (by omega)]; rfl
  · rw [decide_eq_false (p := x ≤ 1000000000) (by omega)]; simp
set_option maxRecDepth 100000 in
theorem idOk_any (x : Int) (w : World) : Calls Try.prog 117 #[.int .i64 x] w fun e w' => e = .returned (.bool (idB x)) ∧ w = w' := by
  by_cases h0 : 1 ≤ x
  · by_cases h1 : x ≤ 1000000000
    · go_enter Try.func117, Try.ntmps117
      go_wp2
      go_ret
      exact ⟨ret_bool (idB_true h0 h1).symm, rfl⟩
    · go_enter Try.func117, Try.ntmps117
      go_wp2
      go_ret
      exact ⟨ret_bool (idB_false (by omega)).symm, rfl⟩
  · go_enter Try.func117, Try.ntmps117
    go_wp2
    go_ret
    exact ⟨ret_bool (idB_false (by omega)).symm, rfl⟩

theorem Lk.range {w : World} {b : Nat} {ss : List Sl} {f l r c : Int} (h : Lk w b ss f l r c) (hn : ss.length = 60) : w.rangeAt b 0 (cellsL ss) := fun j v hv => by
  have := news_rd (h.rd hn) j v hv
  rwa [Addr.add_mid] at this

theorem ext4 {ss : List Sl} (hn : ss.length = 60) {k : Nat} (hk : k < 60) : (cellsL ss).toArray.extract (k * 4) (k * 4 + 4) = #[.int .i64 (sl ss k).id, .int .i64 (sl ss k).prev, .int .i64 (sl ss k).next, .bool (sl ss k).used] := by
  have hsz : (cellsL ss).toArray.size = 240 := by rw [List.size_toArray, cellsL_len, hn]
  apply Array.ext_getElem?
  intro i
  rw [Array.getElem?_extract]
  by_cases hi : i < 4
  · rw [if_pos (by rw [hsz]; omega), List.getElem?_toArray, cellsL_at ss k i (by omega) hi]
    have : i = 0 ∨ i = 1 ∨ i = 2 ∨ i = 3 := by omega
    rcases this with rfl | rfl | rfl | rfl <;> rfl
  · rw [if_neg (by rw [hsz]; omega), Array.getElem?_eq_none (by simp; omega)]

theorem infoSlots : (Try.prog.info? 125).map (·.size) = some 240 := by kernel_rfl

theorem index_slots {ss : List Sl} (hn : ss.length = 60) {k : Nat} (hk : k < 60) (w : World) :
    (Instr.index 125 (.agg (cellsL ss).toArray) (.int .i64 (k : Int))).run Try.prog w = .ok (.agg #[.int .i64 (sl ss k).id, .int .i64 (sl ss k).prev, .int .i64 (sl ss k).next, .bool (sl ss k).used]) w := by
  obtain ⟨i0, hi, hz, hs, _⟩ := info_parts infoSlot
  have he := ext4 hn hk
  simp at he
  simp [Instr.index, asIntOf, Sem.run_bind, run_underlying Try.underlying125, sizeOf, typeInfo, hi, hs, part, he, hk]

/-- Whether all links are in range. -/
def rangeB (ss : List Sl) (f r : Int) : Bool := (ss.all fun s => lnkB s.next) && lnkB f && lnkB r

theorem rangeB_at {ss : List Sl} {k : Nat} (hn : ss.length = 60) (hk : k < 60) (h : lnkB (sl ss k).next = false) (f r : Int) : rangeB ss f r = false := by
  unfold rangeB
  have : (ss.all fun s => lnkB s.next) = false := by
    rw [List.all_eq_false]
    refine ⟨sl ss k, ?_, by rw [h]; simp⟩
    unfold sl
    rw [List.getD_eq_getElem?_getD, List.getElem?_eq_getElem (by omega)]
    exact List.getElem_mem _
  rw [this]; rfl
theorem rangeB_end {ss : List Sl} (hn : ss.length = 60) (h : ∀ k, k < 60 → lnkB (sl ss k).next = true) (f r : Int) : rangeB ss f r = (lnkB f && lnkB r) := by
  unfold rangeB
  have : (ss.all fun s => lnkB s.next) = true := by
    rw [List.all_eq_true]
    intro s hs
    obtain ⟨k, hk, rfl⟩ := List.mem_iff_getElem.1 hs
    have := h k (by omega)
    unfold sl at this
    rwa [List.getD_eq_getElem?_getD, List.getElem?_eq_getElem hk] at this
  rw [this]; simp

set_option maxRecDepth 100000 in
set_option maxHeartbeats 1000000 in
theorem inRange_any (b : Nat) (ss : List Sl) (f l r c : Int) (w : World) (hn : ss.length = 60) (h : Lk w b ss f l r c) :
    Calls Try.prog 133 #[.pointer (some ⟨b, 0, none⟩)] w fun e w' => e = .returned (.bool (rangeB ss f r)) ∧ Below w.heap.size w w' := by
  have HR := Lib.hid (h.range hn)
  have Hsz : Hid ((Try.prog.info? 125).map (·.size) = some (cellsL ss).length) := by show _ = _; rw [infoSlots, cellsL_len, hn]
  have HL := Lib.hid h
  have Hn := Lib.hid hn
  clear h hn
  go_enter Try.func133, Try.ntmps133
  go_wp2_with (refine wpList_load_mid rfl 125 (.tmp 7) rfl b 0 rfl (cellsL ss) _ HR.out Try.underlying125 rfl Hsz.out ?_)
  go_loopw [9] (fun i wr => ∃ k : Nat, k ≤ 60 ∧ i = .int .i64 k ∧ (∀ j, j < k → lnkB (sl ss j).next = true) ∧ Below w.heap.size w wr) (fun i _ => 60 - (intOf i).toNat)
  case atStart => exact ⟨0, Nat.zero_le _, rfl, fun j hj => by omega, Below.refl _ _⟩
  case round =>
    obtain ⟨k, hk, rfl, hq, hbw⟩ := hrel
    have Hq := Lib.hid hq
    clear hq
    by_cases hlt : k < 60
    · have hix := index_slots Hn.out hlt
      have hL := HL.out.below hbw
      obtain ⟨s, hs⟩ : ∃ s, sl ss k = s := ⟨_, rfl⟩
      rw [hs] at hix
      have Hs := Lib.hid hs
      clear hs hL
      cases hb : lnkB s.next
      · have Hb := Lib.hid hb
        clear hb
        go_wp2_with fail
        refine (linkOk_any _ _).mono ?_
        rintro e w' ⟨rfl, rfl⟩
        rw [Hb.out]
        go_wp2
        go_ret
        exact ⟨ret_bool (rangeB_at Hn.out hlt (by rw [Hs.out]; exact Hb.out) f r).symm, hbw.alloc hbw.size _⟩
      · have Hb := Lib.hid hb
        clear hb
        go_wp2_with fail
        refine (linkOk_any _ _).mono ?_
        rintro e w' ⟨rfl, rfl⟩
        rw [Hb.out]
        go_wp2
        go_roundw
        case rel =>
          refine ⟨k + 1, by omega, by go_num, fun j hj => ?_, hbw.alloc hbw.size _⟩
          by_cases e : j = k
          · subst e; rw [Hs.out]; exact Hb.out
          · exact Hq.out j (by omega)
        case measure => simp [intOf]; omega
    · obtain rfl : k = 60 := by omega
      have He := Lib.hid (rangeB_end Hn.out Hq.out f r)
      obtain ⟨n0, _, n2, _, _⟩ := (HL.out.below hbw).nums
      cases h1 : lnkB f
      · have H1 := Lib.hid h1
        clear h1
        go_wp2_with fail
        refine (linkOk_any _ _).mono ?_
        rintro e w' ⟨rfl, rfl⟩
        rw [H1.out]
        go_wp2
        go_ret
        exact ⟨ret_bool (by rw [He.out, H1.out]; rfl), hbw⟩
      · have H1 := Lib.hid h1
        clear h1
        go_wp2_with fail
        refine (linkOk_any _ _).mono ?_
        rintro e w' ⟨rfl, rfl⟩
        rw [H1.out]
        go_wp2_with fail
        refine (linkOk_any _ _).mono ?_
        rintro e w' ⟨rfl, rfl⟩
        go_wp2
        go_ret
        exact ⟨ret_bool (by rw [He.out, H1.out]; rfl), hbw⟩
end Go.Proofs.Ytehdbdolhkflcaa.Que

namespace Go.Proofs.Ytehdbdolhkflcaa.Rng
open Go.RowKit

/-- The iterator's contract: R is what it reads between two rounds, Nx what it hands out next, S when it ends by itself. -/
def SeqR (P : Program) (gf : Nat) (lb : Array Value) (encs : Nat → Array Value) (R : List Nat → World → Prop) (Nx : List Nat → Nat → Prop) (S : List Nat → Prop) : Prop :=
  ∀ (l : Nat) (J : List Nat → World → Prop) (Jx : World → Prop) (W : World), (∀ pre W1, J pre W1 → R pre W1) →
    (∀ pre x W1, J pre W1 → Nx pre x → YieldAt Fence.wide 1 P l (encs x) W1 fun e W' => (e = .returned (.bool true) ∧ J (pre ++ [x]) W') ∨ (e = .returned (.bool false) ∧ Jx W')) →
    J [] W → CallsIn Fence.wide 2 P gf (#[.func (.yield l) #[] #[]] ++ lb) W fun e W' => (∃ v, e = .returned v) ∧ ((∃ xs, S xs ∧ J xs W') ∨ Jx W')

/-- How a round may be left. -/
def bodyEnds (B : Nat) (I : List Nat → World → Prop) (Ix : Code → World → Prop) (xs : List Nat) (W : World) : Exit → Act → World → Prop
  | .normal, _, W' => KeepsFrom B W W' ∧ I xs W'
  | .ret, _, W' => KeepsFrom B W W' ∧ Ix .ret W'
  | .exit id, _, W' => KeepsFrom B W W' ∧ Ix (.exit id) W'
  | .goto t, _, W' => KeepsFrom B W W' ∧ Ix (.goto t) W'
  | .panic _, _, _ => False
  | .outgrown, _, _ => False

/-- What the loop's two blocks hold: its record at B + 1, the block for deferred calls at B. -/
def Books (B : Nat) (rec : Loop) (W : World) : Prop := W.heap[B + 1]? = some (.loop rec) ∧ W.heap[B]? = some (.deferred (some []))

theorem Books.turn {B : Nat} {rec : Loop} {W : World} (h : Books B rec W) (rec' : Loop) : Books B rec' (W.putObj (B + 1) (.loop rec')) :=
  ⟨World.putObj_heap_same (Array.getElem?_eq_some_iff.1 h.1).1, (World.putObj_heap_other (by omega)).trans h.2⟩
theorem Books.keeps {B : Nat} {rec : Loop} {W W' : World} (h : Books B rec W) (k : KeepsFrom B W W') : Books B rec W' :=
  ⟨k.same _ _ (by omega) h.1 rfl, k.same _ _ (Nat.le_refl _) h.2 rfl⟩

set_option maxRecDepth 100000 in
set_option maxHeartbeats 400000 in
theorem range_wide {P : Program} {g : Operand} {ps : Array Tmp} {assign body : Code} {Q : Exit → Act → World → Prop} {a : Act} {w : World} {gf : Nat} {lb : Array Value}
    (hg : a.eval g = .func (.func gf) #[] lb) (eg : ∀ args w, (callFunc gf args).run P w = .ok (.enter gf args) w)
    {encs : Nat → Array Value} {R : List Nat → World → Prop} {Nx : List Nat → Nat → Prop} {S : List Nat → Prop} (hseq : SeqR P gf lb encs R Nx S) (hps : ∀ x, (encs x).size = ps.size)
    (I : List Nat → World → Prop) (Ix : Code → World → Prop) (hI : OwnFrom w.heap.size I) (hIx : ∀ c, OwnFrom w.heap.size (fun (_ : Unit) W => Ix c W)) (hR : ∀ pre W, I pre W → R pre W) (h0 : I [] w) (a₁ : Nat → Act)
    (hassign : ∀ (l x : Nat) (W : World) (K : Act → World → Prop), K (a₁ x) W →
      assign.wpIn (Fence.wide.inRound l) 1 P (Exit.then K (fun _ _ _ => False)) { tmps := (ps.zip (encs x)).foldl (fun t (p, v) => t.setIfInBounds p v) a.tmps, defers := [] } W)
    (hbody : ∀ (l : Nat) (pre : List Nat) (x : Nat) (W : World), I pre W → Nx pre x → body.wpIn (Fence.wide.inRound l) 1 P (bodyEnds w.heap.size I Ix (pre ++ [x]) W) (a₁ x) W)
    (hdone : ∀ (D : Nat) (xs : List Nat) (W : World), w.heap.size ≤ D → S xs → I xs W → W.heap[D]? = some (.deferred (some [])) → Q .normal { a with defers := { target := .collected D, args := #[] } :: a.defers } W)
    (hstop : ∀ (D : Nat) (c : Code) (W : World), w.heap.size ≤ D → Ix c W → W.heap[D]? = some (.deferred (some [])) → c.wpIn Fence.wide 3 P Q { a with defers := { target := .collected D, args := #[] } :: a.defers } W) :
    (Code.rangeFunc g ps assign body).wpIn Fence.wide 3 P Q a w := by
  refine wpIn_rangeFunc ?_
  intro fn hfn
  obtain ⟨B, hB⟩ : ∃ B, w.heap.size = B := ⟨_, rfl⟩
  obtain ⟨rec, hrec⟩ : ∃ rec : LoopState → Option Code → Loop, rec = fun st pe => { state := st, pending := pe, fn, tmps := a.tmps, params := ps, assign, body, defers := B } := ⟨_, rfl⟩
  obtain ⟨W1, hW1⟩ : ∃ W1, (w.alloc (.deferred (some []))).alloc (.loop (rec .ready none)) = W1 := ⟨_, rfl⟩
  have k1 : Books B (rec .ready none) W1 := by
    rw [← hW1]
    refine ⟨?_, (Below.heap_alloc _ _ _ (by simp [hB])).trans (by rw [← hB]; exact World.alloc_heap_new w _)⟩
    have := World.alloc_heap_new (w.alloc (.deferred (some []))) (.loop (rec .ready none))
    rwa [World.size_alloc, hB] at this
  have i1 : I [] W1 := by rw [← hW1]; exact hI.alloc _ (hI.alloc _ h0)
  rw [hB] at hI hIx hbody hdone hstop
  have turnI : ∀ {s : List Nat} {W : World} {r r' : Loop}, I s W → Books B r W → I s (W.putObj (B + 1) (.loop r')) := fun hi hk => hI.putObj _ hi (by omega) hk.1 rfl
  have turnX : ∀ {c : Code} {W : World} {r r' : Loop}, Ix c W → Books B r W → Ix c (W.putObj (B + 1) (.loop r')) := fun {c} {W} {r} {r'} hi hk => (hIx c).putObj (s := ()) _ hi (by omega) hk.1 rfl
  refine ⟨B + 1, [{ target := .collected B, args := #[] }], W1, { target := .fn (.func gf) lb, args := #[.func (.yield (B + 1)) #[] #[]] }, W1, gf, #[.func (.yield (B + 1)) #[] #[]] ++ lb, W1, ?_, ?_, ?_, ?_, fun _ => by omega, ?_⟩
  · rw [← hW1, hrec, ← hB]; exact run_enterLoop_outer _ _ _ _ _
  · simp only [resolve, hg]
    simp [go_sem]
  · intro f' _; trivial
  · simp [invoke, go_sem, eg]
  refine (hseq (B + 1) (fun pre W => I pre W ∧ Books B (rec .ready none) W) (fun W => ∃ c, Ix c W ∧ Books B (rec .done (some c)) W) W1 (fun pre W h => hR pre W h.1) ?_ ⟨i1, k1⟩).mono ?_
  · rintro pre x W ⟨hi, hk⟩ hnx
    have hy := run_yield (P := P) (args := encs x) hk.1 (by rw [hrec]; exact hps x)
    rw [hrec] at hy
    refine ⟨fn, _, assign, body, hy, roundIn_of_wpIn hfn (hassign _ x W _ ⟨_, run_beginRound hk.1 (by rw [hrec]), ?_⟩)⟩
    have hk2 := hk.turn { rec .ready none with state := .busy }
    refine wpIn_mono (hbody _ pre x _ (turnI hi hk) hnx) ?_
    have ends : ∀ (jump : Option Code) (W3 : World), KeepsFrom B (W.putObj (B + 1) (.loop { rec .ready none with state := .busy })) W3 →
        Books B { rec .ready none with state := .busy } W3 ∧ (Instr.endRound (B + 1) jump).run P W3 = .ok (.bool jump.isNone) (W3.putObj (B + 1) (.loop (rec (if jump.isNone then .ready else .done) jump))) := fun jump W3 k3 => by
      have b3 := hk2.keeps k3
      have := run_endRound (P := P) jump b3.1
      rw [hrec] at this b3 ⊢
      exact ⟨b3, this⟩
    rintro e a3 W3 hp
    cases e with
    | normal =>
      obtain ⟨k3, i3⟩ := hp
      obtain ⟨b3, hr⟩ := ends none W3 k3
      exact ⟨_, _, hr, .inl ⟨rfl, turnI i3 b3, b3.turn _⟩⟩
    | ret =>
      obtain ⟨k3, i3⟩ := hp
      obtain ⟨b3, hr⟩ := ends (some .ret) W3 k3
      exact ⟨_, _, hr, .inr ⟨rfl, .ret, turnX i3 b3, b3.turn _⟩⟩
    | exit id =>
      obtain ⟨k3, i3⟩ := hp
      obtain ⟨b3, hr⟩ := ends (some (.exit id)) W3 k3
      exact ⟨_, _, hr, .inr ⟨rfl, .exit id, turnX i3 b3, b3.turn _⟩⟩
    | goto t =>
      obtain ⟨k3, i3⟩ := hp
      obtain ⟨b3, hr⟩ := ends (some (.goto t)) W3 k3
      exact ⟨_, _, hr, .inr ⟨rfl, .goto t, turnX i3 b3, b3.turn _⟩⟩
    | panic ch => exact hp.elim
    | outgrown => exact hp.elim
  · rintro e W2 ⟨⟨v, rfl⟩, (⟨xs, hS, hi, hk⟩ | ⟨c, hi, hk⟩)⟩
    · exact ⟨none, _, by have := run_endLoop (P := P) hk.1 (by rw [hrec]; simp); rw [hrec] at this; exact this, hdone _ xs _ (Nat.le_refl _) hS (turnI hi hk) ((World.putObj_heap_other (by omega)).trans hk.2)⟩
    · exact ⟨some c, _, by have := run_endLoop (P := P) hk.1 (by rw [hrec]; simp); rw [hrec] at this; exact this, hstop _ c _ (Nat.le_refl _) (turnX hi hk) ((World.putObj_heap_other (by omega)).trans hk.2)⟩
end Go.Proofs.Ytehdbdolhkflcaa.Rng

namespace Go.Proofs.Ytehdbdolhkflcaa.Que
open Go.RowKit Go.Deep Base Rng
attribute [local go_sem] Oper.semAt_some

/-- Where the walk from start on stands when the places pre have come. -/
def cur (ss : List Sl) (start : Int) (pre : List Nat) : Int := match pre.getLast? with
  | none => start
  | some x => (sl ss x).next

theorem cur_nil (ss : List Sl) (start : Int) : cur ss start [] = start := rfl
theorem cur_snoc (ss : List Sl) (start : Int) (pre : List Nat) (x : Nat) : cur ss start (pre ++ [x]) = (sl ss x).next := by simp [cur]

/-- All links are in range. -/
def InR (ss : List Sl) (start : Int) : Prop := (-1 ≤ start ∧ start ≤ 59) ∧ ∀ i, i < 60 → -1 ≤ (sl ss i).next ∧ (sl ss i).next ≤ 59

theorem cur_range {ss : List Sl} {start : Int} {pre : List Nat} (h : InR ss start) (hl : ∀ x ∈ pre, x < 60) : cur ss start pre = -1 ∨ ∃ k : Nat, cur ss start pre = (k : Int) ∧ k < 60 := by
  have h1 : -1 ≤ cur ss start pre ∧ cur ss start pre ≤ 59 := by
    rcases List.eq_nil_or_concat pre with rfl | ⟨r, x, rfl⟩
    · exact h.1
    · rw [List.concat_eq_append, cur_snoc]
      exact h.2 x (hl x (by simp))
  by_cases e : cur ss start pre = -1
  · exact .inl e
  · exact .inr ⟨(cur ss start pre).toNat, by omega, by omega⟩

def fEnc (x : Nat) : Array Value := #[.int .i64 (x : Int)]

/-- What the iterator reads between two rounds: its two boxes and the links; and the rounds are few. -/
structure FR (bs bl b : Nat) (ss : List Sl) (f l r c start : Int) (pre : List Nat) (W : World) : Prop where
  sb : W.cell? ⟨bs, 0, none⟩ = some (.int .i64 start)
  lb : W.cell? ⟨bl, 0, none⟩ = some (.pointer (some ⟨b, 0, none⟩))
  lk : Lk W b ss f l r c
  lt : ∀ x ∈ pre, x < 60
  few : pre.length ≤ 60

def FNx (ss : List Sl) (start : Int) (pre : List Nat) (x : Nat) : Prop := cur ss start pre = (x : Int) ∧ x < 60
def FS (ss : List Sl) (start : Int) (xs : List Nat) : Prop := cur ss start xs = -1

set_option maxRecDepth 100000 in
theorem follow_any (b : Nat) (start : Int) (w : World) :
    Calls Try.prog 112 #[.pointer (some ⟨b, 0, none⟩), .int .i64 start] w fun e w' => e = .returned (.func (.func 127) #[] #[.pointer (some ⟨w.heap.size + 1, 0, none⟩), .pointer (some ⟨w.heap.size, 0, none⟩)])
      ∧ (w.alloc (.cells #[.pointer (some ⟨b, 0, none⟩)] 150)).alloc (.cells #[.int .i64 start] 3) = w' := by
  have hmf : ∀ (fn : Fn) (first cap : Array Value) (w : World), (Instr.makeFunc fn first cap).run Try.prog w = .ok (.func fn first cap) w := fun _ _ _ _ => rfl
  go_enter Try.func112, Try.ntmps112
  go_wp2
  go_ret
  exact ⟨rfl, rfl⟩

set_option maxRecDepth 100000 in
set_option maxHeartbeats 1000000 in
theorem follow1_seq (bs bl b : Nat) (ss : List Sl) (f l r c start : Int) (hin : InR ss start) :
    SeqR Try.prog 127 #[.pointer (some ⟨bs, 0, none⟩), .pointer (some ⟨bl, 0, none⟩)] fEnc (FR bs bl b ss f l r c start) (FNx ss start) (FS ss start) := by
  intro lp J Jx W hJ hY h0
  have HJ := Lib.hid hJ
  have HY := Lib.hid hY
  have Hin := Lib.hid hin
  clear hJ hY hin
  have hsb := (HJ.out _ _ h0).sb
  have H0 := Lib.hid h0
  clear h0
  refine callsIn_of_wp Try.func127 rfl trivial ?_ rfl
  simp only [Try.ntmps127, List.size_toArray, List.length_cons, List.length_nil, Nat.reduceAdd, Nat.reduceSub, Array.replicate_succ, Array.replicate_zero, List.push_toArray, List.append_toArray, List.nil_append, List.cons_append]
  gi_wp2
  gi_loopg [4] 61 (fun k p wr => ∃ pre, 61 ≤ k + pre.length ∧ p = .int .i64 (cur ss start pre) ∧ J pre wr)
  case atStart => exact ⟨[], by simp, rfl, H0.out⟩
  case round =>
    obtain ⟨pre, hk, rfl, hj⟩ := hrel
    have hR := HJ.out _ _ hj
    rcases cur_range Hin.out hR.lt with hc | ⟨k, hc, hk60⟩
    · have Hc := Lib.hid hc
      rw [hc]
      clear hc
      gi_wp2
      refine ⟨fun _ h => (by cases h), ?_⟩
      gi_wp2
      go_end0
      exact ⟨⟨_, rfl⟩, .inl ⟨pre, Hc.out, hj⟩⟩
    · have Hc := Lib.hid hc
      rw [hc]
      clear hc
      obtain ⟨fn, tmps, assign, body, hy, hRd⟩ := HY.out pre k wr hj ⟨Hc.out, hk60⟩
      have hk1 : ((k : Int) != -1) = true := by rw [bne_iff_ne]; omega
      have hk2 : ((k : Int) == -1) = false := beq_eq_false_iff_ne.2 (by omega)
      have Hj := Lib.hid hj
      have Hk := Lib.hid hk
      clear hj hk hR
      dsimp only [fEnc] at hy
      gi_wp2
      refine hRd.mono ?_
      rintro e W2 (⟨rfl, hj2⟩ | ⟨rfl, hx⟩)
      · have hR2 := HJ.out _ _ hj2
        have hlb := hR2.lb
        obtain ⟨_, _, c2, _⟩ := hR2.lk.slot hk60
        have Hf := Lib.hid hR2.few
        have Hcs := Lib.hid (cur_snoc ss start pre k)
        rw [← Hcs.out] at c2
        have Hj2 := Lib.hid hj2
        clear hj2 hR2 hy hRd
        gi_wp2
        gi_roundg (gk - 1)
        case measure =>
          have := Hk.out
          have := Hf.out
          rw [List.length_append, List.length_singleton] at this
          omega
        case rel =>
          refine ⟨pre ++ [k], ?_, rfl, Hj2.out⟩
          have := Hk.out
          rw [List.length_append, List.length_singleton]
          omega
      · gi_wp2
        go_end0
        exact ⟨⟨_, rfl⟩, .inr hx⟩
end Go.Proofs.Ytehdbdolhkflcaa.Que

namespace Go.Proofs.Ytehdbdolhkflcaa.Que
open Go.RowKit Go.Deep Base

def entry (x : Int) (i : Nat) : MapEntry := { key := .int .i64 x, val := .bool true, born := i }
def entries : List Int → Nat → List MapEntry
  | [], _ => []
  | x :: r, i => entry x i :: entries r (i + 1)
def mapObj (ids : List Int) : Obj := .map (entries ids 0).toArray ids.length

theorem entries_len : ∀ (ids : List Int) (i : Nat), (entries ids i).length = ids.length
  | [], _ => rfl
  | _ :: r, i => by simp [entries, entries_len r (i + 1)]
theorem entries_snoc : ∀ (ids : List Int) (x : Int) (i : Nat), entries (ids ++ [x]) i = entries ids i ++ [entry x (i + ids.length)]
  | [], x, i => by simp [entries]
  | y :: r, x, i => by
    simp [entries, entries_snoc r x (i + 1)]
    rw [show i + 1 + r.length = i + (r.length + 1) from by omega]

theorem find_now (x : Int) : ∀ (ids : List Int) (i k : Nat), ∃ r, Instr.findNow (.int .i64) (.int .i64 x) (entries ids i) k = some r ∧ (r.map (·.2)) = if ids.contains x then some (.bool true) else none
  | [], i, k => ⟨none, rfl, rfl⟩
  | y :: r, i, k => by
    by_cases e : x = y
    · subst e
      refine ⟨some (k, .bool true), ?_, ?_⟩
      · simp [entries, entry, Instr.findNow, Instr.sameNow]
      · simp
    · obtain ⟨q, h1, h2⟩ := find_now x r (i + 1) (k + 1)
      refine ⟨q, ?_, ?_⟩
      · have hb : (x == y) = false := beq_eq_false_iff_ne.2 e
        simp [entries, entry, Instr.findNow, Instr.sameNow, hb, h1]
      · rw [h2]; simp [e]

theorem check_int (b : Bool) (x : Int) (w : World) : (Instr.checkKey b 10000 3 (.int .i64 x)).run Try.prog w = .ok () w := by
  unfold Instr.checkKey
  simp [Sem.run_bind, run_underlying Try.underlying3]

theorem find_key (x : Int) (ids : List Int) (w : World) : ∃ r, (Instr.findKey 3 (.int .i64 x) (entries ids 0)).run Try.prog w = .ok r w ∧ (r.map (·.2)) = if ids.contains x then some (.bool true) else none := by
  obtain ⟨r, h1, h2⟩ := find_now x ids 0 0
  exact ⟨r, by simp [Instr.findKey, Sem.run_bind, run_underlying Try.underlying3, h1], h2⟩

theorem get_map {w : World} {mb : Nat} {ids : List Int} (h : w.heap[mb]? = some (mapObj ids)) : (getObj mb).run Try.prog w = .ok (mapObj ids) w := by simp [getObj, Sem.run, h, mapObj]

theorem look_ids {w : World} {mb : Nat} {ids : List Int} (h : w.heap[mb]? = some (mapObj ids)) (x : Int) : (Instr.lookup 118 (.map (some mb)) (.int .i64 x) false).run Try.prog w = .ok (.bool (ids.contains x)) w := by
  obtain ⟨r, h1, h2⟩ := find_key x ids w
  have hz : (zeroValue 4).run Try.prog w = .ok (.bool false) w := Try.zeroValue4 w
  have hg := get_map h
  have he : ∀ b, (Instr.checkKey b 10000 3 (.int .i64 x)).run Try.prog w = .ok () w := fun b => check_int b x w
  cases hc : ids.contains x
  · rw [hc] at h2
    have : r = none := by simpa using h2
    subst this
    simp [Instr.lookup, Sem.run_bind, run_underlying Try.underlying118, hg, mapObj, he, h1, hz]
  · rw [hc] at h2
    obtain ⟨q, rfl, hq⟩ : ∃ q, r = some q ∧ q.2 = .bool true := by simpa using h2
    obtain ⟨q1, q2⟩ := q
    simp at hq
    subst hq
    simp [Instr.lookup, Sem.run_bind, run_underlying Try.underlying118, hg, mapObj, he, h1]

theorem put_ids {w : World} {mb : Nat} {ids : List Int} (h : w.heap[mb]? = some (mapObj ids)) {x : Int} (hx : ids.contains x = false) :
    (Instr.mapUpdate 118 (.map (some mb)) (.int .i64 x) (.bool true)).run Try.prog w = .ok () (w.putObj mb (mapObj (ids ++ [x]))) := by
  obtain ⟨r, h1, h2⟩ := find_key x ids w
  rw [hx] at h2
  have : r = none := by simpa using h2
  subst this
  have hg := get_map h
  have hs : (setObj mb (mapObj (ids ++ [x]))).run Try.prog w = .ok () (w.putObj mb (mapObj (ids ++ [x]))) := by simp [setObj, Sem.run, h, World.putObj, mapObj]
  have e2 : mapObj (ids ++ [x]) = Obj.map (entries ids 0 ++ [({ key := .int .i64 x, val := .bool true, born := ids.length } : MapEntry)]).toArray (ids.length + 1) := by simp [mapObj, entries_snoc, entry]
  have he := check_int false x w
  unfold mapObj at hg
  simp [Instr.mapUpdate, Sem.run_bind, run_underlying Try.underlying118, hg, he, h1]
  rw [e2] at hs ⊢
  exact hs

/-- Whether the n bools f 0, f 1, .. are all true. -/
def allT (n : Nat) (f : Nat → Bool) : Bool := (List.range n).all f
theorem allT_false {n k : Nat} {f : Nat → Bool} (hk : k < n) (h : f k = false) : allT n f = false := by
  unfold allT; rw [List.all_eq_false]; exact ⟨k, List.mem_range.2 hk, by rw [h]; simp⟩
theorem allT_true {n : Nat} {f : Nat → Bool} (h : ∀ k, k < n → f k = true) : allT n f = true := by
  unfold allT; rw [List.all_eq_true]; exact fun k hk => h k (List.mem_range.1 hk)

def IdxB (n : Nat) (f : Nat → Bool) (w : World) (e : Ending) (w' : World) : Prop := (∃ k : Int, e = .returned (.int .i64 k) ∧ decide (0 ≤ k) = !(allT n f)) ∧ w = w'

set_option maxRecDepth 100000 in
set_option maxHeartbeats 400000 in
theorem indexB_any (g n cap : Nat) (f : Nat → Bool) (w : World) (hm : n ≤ 1048576) (h : ∀ i, i < n → w.cell? ⟨g, i, none⟩ = some (.bool (f i))) :
    Calls Try.prog 138 #[.slice (some ⟨g, 0, none⟩) n cap, .bool false] w (IdxB n f w) := by
  have HI := Lib.hid h
  clear h
  go_enter Try.func138, Try.ntmps138
  go_wp2
  go_loop [8] (fun i => ∃ k : Nat, k ≤ n ∧ i = .int .i64 k ∧ ∀ j, j < k → f j = true) (fun i => n - (intOf i).toNat)
  case atStart => exact ⟨0, Nat.zero_le _, rfl, fun j hj => by omega⟩
  case round =>
    obtain ⟨k, hk, rfl, hq⟩ := hrel
    have Hq := Lib.hid hq
    clear hq
    by_cases hlt : k < n
    · have hc := HI.out k hlt
      cases hf : f k
      · have Hf := Lib.hid hf
        rw [hf] at hc
        clear hf
        go_wp2
        go_ret
        exact ⟨⟨k, rfl, by rw [allT_false hlt Hf.out]; simp⟩, rfl⟩
      · have Hf := Lib.hid hf
        rw [hf] at hc
        clear hf
        go_wp2
        go_round
        case rel =>
          refine ⟨k + 1, by omega, by go_num, fun j hj => ?_⟩
          by_cases e : j = k
          · subst e; exact Hf.out
          · exact Hq.out j (by omega)
        case measure => simp [intOf]; omega
    · obtain rfl : k = n := by omega
      go_wp2
      go_ret
      exact ⟨⟨-1, rfl, by rw [allT_true Hq.out]; rfl⟩, rfl⟩

set_option maxRecDepth 100000 in
theorem contB_any (g n cap : Nat) (f : Nat → Bool) (w : World) (hm : n ≤ 1048576) (h : ∀ i, i < n → w.cell? ⟨g, i, none⟩ = some (.bool (f i))) :
    Calls Try.prog 136 #[.slice (some ⟨g, 0, none⟩) n cap, .bool false] w fun e w' => e = .returned (.bool (!(allT n f))) ∧ w = w' := by
  have HI := Lib.hid h
  clear h
  go_enter Try.func136, Try.ntmps136
  go_wp2_with fail
  refine (indexB_any g n cap f _ hm HI.out).mono ?_
  rintro e w' ⟨⟨k, rfl, hk⟩, rfl⟩
  have Hk := Lib.hid hk
  clear hk
  go_wp2
  go_ret
  exact ⟨ret_bool Hk.out, rfl⟩
end Go.Proofs.Ytehdbdolhkflcaa.Que

namespace Go.Proofs.Ytehdbdolhkflcaa.Rng
open Go.RowKit

section
variable {P : Program} {ops : Array Oper} {md : Region.Mode} {lp m : Nat} {Q : Exit → Act → World → Prop}

/-- No operation defers a call. -/
def NoDefer (ops : Array Oper) : Prop := ∀ (i : Nat) (o : Oper), ops[i]? = some o → ∀ c, o.op ≠ .defer c

def noDeferB (ops : Array Oper) : Bool := ops.all fun o => match o.op with
  | .defer _ => false
  | _ => true

theorem noDefer_of {ops : Array Oper} (h : noDeferB ops = true) : NoDefer ops := fun i o ho c e => by
  have h1 := (Array.all_eq_true_iff_forall_mem.1 h) o (Array.mem_of_getElem? ho)
  rw [e] at h1
  cases h1

theorem opIn_of_stOp (hd : NoDefer ops) {w : World} {i : Nat} {a : Act} {K : Act → Prop} {K' : Act → World → Prop} (h : stOp P ops w i K a) (hk : ∀ a', K a' → K' a' w) : wpOpIn (Fence.wide.inRound lp) m P ops Q i K' a w := by
  unfold wpOpIn
  cases ho : ops[i]? with
  | none => unfold stOp at h; simp only [ho] at h; exact hk _ h
  | some o =>
    simp only
    obtain ⟨v, hy, hK⟩ := yieldsAt_of_stOp ho h
    have hs : o.semAt (some lp) a.eval = execOp a.eval o := Oper.semAt_some lp _ _ (hd i o ho)
    rcases hy with ⟨hw, hv | ⟨hv, rfl⟩ | ⟨f, args, hv, hc⟩⟩ | ⟨hw, rfl⟩
    · rw [if_pos hw]
      refine ⟨fun _ _ => trivial, ?_⟩
      show o.uponIn _ _ _ _ _ _ ((o.semAt (some lp) a.eval).run P w)
      rw [hs, hv]
      exact hk _ hK
    · rw [if_pos hw]
      refine ⟨fun _ _ => trivial, ?_⟩
      show o.uponIn _ _ _ _ _ _ ((o.semAt (some lp) a.eval).run P w)
      rw [hs, hv]
      exact hk _ hK
    · rw [if_pos hw]
      refine ⟨fun _ _ => trivial, ?_⟩
      show o.uponIn _ _ _ _ _ _ ((o.semAt (some lp) a.eval).run P w)
      rw [hs, hv, Oper.uponIn_enter]
      refine ⟨fun h => (by cases h), CallsIn.inRound lp ((callsIn_wide.2 hc).mono ?_)⟩
      rintro e w'' ⟨rfl, rfl⟩
      exact hk _ hK
    · rw [if_neg (by rw [hw]; simp)]
      exact ⟨fun _ _ => trivial, hk _ hK⟩

theorem anyIn_of_head (hd : NoDefer ops) {w : World} {n g : Nat} {L : Array Bool → Act → Prop} (hL : ∀ listed a, L listed a → wpAnyIn (Fence.wide.inRound lp) m P md ops Q g listed a w) :
    ∀ (f : Nat) (listed : Array Bool) (a : Act), wpAnyL P md ops w n L f listed a → wpAnyIn (Fence.wide.inRound lp) m P md ops Q (f + g) listed a w
  | 0, listed, a, h => by rw [Nat.zero_add]; exact hL _ _ h
  | f + 1, listed, a, h => by
    rw [show f + 1 + g = (f + g) + 1 from by omega]
    exact ⟨fun h0 => absurd h0 h.1, fun i hi => opIn_of_stOp hd (h.2 i hi).2 (fun a' h' => anyIn_of_head hd hL f _ a' h')⟩

theorem anyIn_of_seq : ∀ (l : List Oper) (k : Nat) (listed : Array Bool) (a : Act) (w : World), (∀ j, l[j]? = ops[k + j]?) →
    Region.seqB md ops l.length k listed = true → wpListIn (Fence.wide.inRound lp) m P ops Q l a w → wpAnyIn (Fence.wide.inRound lp) m P md ops Q l.length listed a w
  | [], _, _, _, _, _, hB, h => ⟨by simpa [Region.seqB] using hB, h⟩
  | o :: l, k, listed, a, w, hl, hB, h => by
    have h0 : ops[k]? = some o := by simpa using (hl 0).symm
    simp only [List.length_cons, Region.seqB, Bool.and_eq_true, decide_eq_true_eq] at hB
    refine ⟨fun h1 => (by rw [hB.1] at h1; cases h1), fun i hi => ?_⟩
    rw [hB.1] at hi
    obtain rfl : i = k := by simpa using hi
    have hw : wpOpIn (Fence.wide.inRound lp) m P ops Q i (wpListIn (Fence.wide.inRound lp) m P ops Q l) a w := by unfold wpOpIn; simp only [h0]; exact h
    exact wpOpIn_mono (fun a' w' h' => anyIn_of_seq l (i + 1) _ a' w' (fun j => by have := hl (j + 1); simpa [Nat.add_assoc, Nat.add_comm 1 j] using this) hB.2 h') hw

theorem still_round {id : Nat} {a : Act} {w : World} {l : List Oper} (n : Nat) (hm : P.follows .mixedOrders = true) (hB : Region.lexTailB .any l.toArray n = true) (hd : noDeferB l.toArray = true)
    (h : wpStill P l.toArray w.drew (fun a' => wpListIn (Fence.wide.inRound lp) m P l.toArray Q (l.drop n) a' w.drew) (l.take n) a) : (Code.region id l.toArray true).wpIn (Fence.wide.inRound lp) m P Q a w := by
  simp only [Region.lexTailB, Bool.and_eq_true, decide_eq_true_eq] at hB
  obtain ⟨⟨⟨⟨hsel, hn⟩, hs⟩, hc⟩, hlex⟩ := hB
  have hn' : n < l.length := by simpa using hn
  have htl : (l.take n).length = n := by simp; omega
  have hdl : (l.drop n).length = l.toArray.size - n := by simp
  have inv0 : HeadInv .any l.toArray n (Array.replicate l.toArray.size false) :=
    ⟨by simp, fun j oj _ hl => (by rw [getD_replicate_false] at hl; cases hl), fun t _ ht => getD_in (by simpa using ht) (getD_replicate_false _ _)⟩
  have H := wpAnyL_lex (md := .any) (g := l.toArray.size - n) hsel hs hc hn (l.take n) 0 _ a (fun j hj => by
    have hj' : j < n := by rw [htl] at hj; exact hj
    simp [hj']) (by simpa using htl) inv0 (by rw [htl]; exact hlex) h
  refine wpIn_region_any hm ?_
  have key := anyIn_of_head (lp := lp) (m := m) (Q := Q) (noDefer_of hd) (g := l.toArray.size - n) (fun listed a' hL => by
    have := anyIn_of_seq (md := .any) (lp := lp) (m := m) (Q := Q) (l.drop n) n listed a' w.drew (fun j => by simp [List.getElem?_drop]) (by rw [hdl]; exact hL.1) hL.2
    rwa [hdl] at this) _ _ _ H
  rw [htl, show n + (l.toArray.size - n) = l.toArray.size from by omega] at key
  exact key

theorem op_round {o : Oper} {a : Act} {w : World} {K : Act → World → Prop} (hd : ∀ c, o.op ≠ .defer c) (h : o.wp P a w K Q) : o.wpIn (Fence.wide.inRound lp) m P a w K Q := by
  refine ⟨fun _ _ => trivial, ?_⟩
  show o.uponIn _ _ _ _ _ _ ((o.semAt (some lp) a.eval).run P w)
  rw [Oper.semAt_some lp _ _ hd]
  unfold Oper.wp at h
  generalize (execOp a.eval o).run P w = r at *
  cases r with
  | ok n w' =>
    cases n <;> simp only [Oper.upon, Oper.uponIn] at h ⊢
    case value u => exact h
    case skip => exact h
    case defer d => exact h
    case enter f args => exact ⟨fun h => (by cases h), CallsIn.inRound lp (callsIn_wide.2 h)⟩
    case row row args => exact ⟨fun h => (by cases h), fun c cs _ => let ⟨v, w'', hr, hs⟩ := h c cs; ⟨v, w'', hr, stepsIn_wide.2 hs⟩⟩
  | halt x w' => cases x <;> simp only [Oper.upon, Oper.uponIn] at h ⊢ <;> exact h

theorem anyIn_of_any (hd : NoDefer ops) (hlo : ¬ LetsOut Q) : ∀ (fuel : Nat) (listed : Array Bool) (a : Act) (w : World), wpAny P md ops Q fuel listed a w → wpAnyIn (Fence.wide.inRound lp) m P md ops Q fuel listed a w
  | 0, _, _, _, h => h
  | fuel + 1, listed, a, w, h => by
    refine ⟨h.1, fun i hi => ?_⟩
    have h1 := h.2 i hi
    refine wpOpIn_mono (fun a' w' h' => anyIn_of_any hd hlo fuel _ a' w' h') ?_
    unfold wpOp at h1
    unfold wpOpIn
    cases ho : ops[i]? with
    | none => simp only [ho] at h1; exact h1
    | some o =>
      simp only [ho] at h1 ⊢
      split
      · rename_i hw
        simp only [hw, if_true] at h1
        rcases h1 with h1 | ⟨_, h1⟩
        · exact op_round (hd i o ho) h1
        · exact absurd h1 hlo
      · rename_i hw
        simp only [hw] at h1
        exact ⟨fun _ _ => trivial, h1⟩

theorem held_round {id : Nat} {a : Act} {w : World} (S : World → Prop) (hm : P.follows .mixedOrders = true) (hd : noDeferB ops = true) (hlo : ¬ LetsOut Q)
    (h : wpAnyH P .any ops Q S ops.size (Array.replicate ops.size false) a w.drew) : (Code.region id ops true).wpIn (Fence.wide.inRound lp) m P Q a w :=
  wpIn_region_any hm (anyIn_of_any (noDefer_of hd) hlo _ _ _ _ (wpAny_of_held _ _ _ _ h))
end
end Go.Proofs.Ytehdbdolhkflcaa.Rng

namespace Go.Proofs.Ytehdbdolhkflcaa.Que
open Go.RowKit Go.Deep Base Rng
attribute [local go_sem] Oper.semAt_some

theorem bcl {w w' : World} {B b o : Nat} (h : Below B w w') (hb : b < B) : w'.cell? ⟨b, o, none⟩ = w.cell? ⟨b, o, none⟩ := h.cell (p := ⟨b, o, none⟩) hb
theorem bfr {w w' : World} {B b o : Nat} (h : Below B w w') (hb : b < B) : w'.frozen? ⟨b, o, none⟩ = w.frozen? ⟨b, o, none⟩ := h.frozen (p := ⟨b, o, none⟩) hb

theorem bset {a w : World} {B b o : Nat} (h : Below B a w) (hb : B ≤ b) (u : Value) : Below B a (w.setCell ⟨b, o, none⟩ u) := h.setCell (p := ⟨b, o, none⟩) hb u

/-- Behind the turn of the block for deferred calls. -/
theorem put_cell {W : World} {D b o : Nat} {v : Value} (hK : W.heap[D]? = some (.deferred (some []))) (h : W.cell? ⟨b, o, none⟩ = some v) : (W.putObj D (.deferred none)).cell? ⟨b, o, none⟩ = some v :=
  cell_kept h (grownBy_putObj' W D (.deferred none)) (fun r e => by cases e; exact ⟨_, hK, rfl⟩)
theorem put_below {w W : World} {D B : Nat} (hK : W.heap[D]? = some (.deferred (some []))) (h : Below B w W) (hD : B ≤ D) : Below B w (W.putObj D (.deferred none)) :=
  h.trans ((Below.refl B W).grown (grownBy_putObj' W D (.deferred none)) (by have := (Array.getElem?_eq_some_iff.1 hK).1; omega) (fun k e => by cases e; exact hD))

theorem seg_cur {ss : List Sl} : ∀ {us : List Nat} {pr p m : Int} (pre rest : List Nat), Seg ss pr p us m (-1) → us = pre ++ rest → cur ss p pre = match rest with
    | [] => -1
    | y :: _ => (y : Int) := by
  intro us pr p m pre rest h e
  subst e
  obtain ⟨m', q', h1, h2⟩ := (seg_append _ _ _ _ _ _ _).1 h
  have hq : cur ss p pre = q' := by
    rcases List.eq_nil_or_concat pre with rfl | ⟨r, x, rfl⟩
    · exact h1.2.symm
    · rw [List.concat_eq_append] at h1 ⊢
      rw [cur_snoc]
      obtain ⟨m2, q2, _, h4⟩ := (seg_append _ _ _ _ _ _ _).1 h1
      exact h4.2.2.2.2.symm
  rw [hq]
  cases rest with
  | nil => exact h2.2.symm
  | cons y r => exact h2.1

/-- The place of an Id among the places us; -1 where it is not. -/
def placeF (ss : List Sl) (us : List Nat) (id : Int) : Int := match us.find? (fun x => (sl ss x).id == id) with
  | some x => (x : Int)
  | none => -1


end Go.Proofs.Ytehdbdolhkflcaa.Que

namespace Go.Proofs.Ytehdbdolhkflcaa.Que
open Go.RowKit Go.Deep Base Rng
attribute [local go_sem] Oper.semAt_some

theorem gcell {a b : World} {g k o : Nat} (h : a.grownBy b (some g)) (hk : k < a.heap.size) (hne : k ≠ g) : b.cell? ⟨k, o, none⟩ = a.cell? ⟨k, o, none⟩ :=
  World.cell?_of_block (w := a) (h.block k hk (fun e => hne (by injection e)))
theorem gfroz {a b : World} {g k o : Nat} (h : a.grownBy b (some g)) (hk : k < a.heap.size) (hne : k ≠ g) : b.frozen? ⟨k, o, none⟩ = a.frozen? ⟨k, o, none⟩ :=
  World.frozen?_of_block (w := a) (h.block k hk (fun e => hne (by injection e)))
theorem gtrans {a b c : World} {row : Option Nat} (h : a.grownBy b row) (k : b.grownBy c row) : a.grownBy c row :=
  ⟨k.os.trans h.os, k.tape.trans h.tape, k.output.trans h.output, Nat.le_trans h.size k.size, fun i hi hne => (k.block i (Nat.lt_of_lt_of_le hi h.size) hne).trans (h.block i hi hne)⟩
theorem gset (w : World) (g o : Nat) (v : Value) : w.grownBy (w.setCell ⟨g, o, none⟩ v) (some g) := Draw_grown_set w g o v
theorem galloc (w : World) (o : Obj) (row : Option Nat) : w.grownBy (w.alloc o) row := World.grownBy_alloc w o row
theorem gturns {a b : World} {g : Nat} (h : a.grownBy b (some g)) : Turns g (g + 1) a b :=
  ⟨h.os, h.tape, h.output, h.size, fun k hk ho => h.block k hk (fun e => by injection e with e; omega)⟩
theorem ownFrom_grown {β : Type} {B g : Nat} {w0 : World} (hB : w0.heap.size ≤ B) : OwnFrom B (fun (_ : β) W => w0.grownBy W (some g)) :=
  fun _ X Y row hs hg hr => ⟨hg.os.trans hs.os, hg.tape.trans hs.tape, hg.output.trans hs.output, Nat.le_trans hs.size hg.size, fun i hi hne => (hg.block i (Nat.lt_of_lt_of_le hi hs.size) (fun e => by have := (hr i e.symm).1; omega)).trans (hs.block i hi hne)⟩
theorem own_row {β : Type} (g : Nat) (t : TypeId) (n : Nat) (f : β → Nat → Value) : Own (fun s W => W.rowIs g t n (f s)) := fun s X Y row hs hg hr => by
  obtain ⟨cs, hb, hn, hc⟩ := hs
  refine ⟨cs, (hg.block g (Array.getElem?_eq_some_iff.1 hb).1 (fun e => ?_)).trans hb, hn, hc⟩
  obtain ⟨o, ho, hcl⟩ := hr g e.symm
  rw [hb] at ho
  cases ho
  cases hcl

theorem tset {lo hi : Nat} {a w : World} (h : Turns lo hi a w) {b o : Nat} (hb : a.heap.size ≤ b) (u : Value) : Turns lo hi a (w.setCell ⟨b, o, none⟩ u) :=
  ⟨h.os, h.tape, h.output, by simpa [World.setCell] using h.size, fun k hk ho => (Below.heap_setCell w ⟨b, o, none⟩ u k (by show k ≠ b; omega)).trans (h.block k hk ho)⟩
theorem talloc {lo hi : Nat} {a w : World} (h : Turns lo hi a w) (o : Obj) : Turns lo hi a (w.alloc o) :=
  ⟨h.os, h.tape, h.output, Nat.le_trans h.size (by simp), fun k hk ho => (Below.heap_alloc w o k (Nat.lt_of_lt_of_le hk h.size)).trans (h.block k hk ho)⟩
theorem tput {lo hi : Nat} {a w : World} (h : Turns lo hi a w) {D : Nat} (hD : a.heap.size ≤ D) (o : Obj) : Turns lo hi a (w.putObj D o) :=
  ⟨h.os, h.tape, h.output, by simpa [World.putObj] using h.size, fun k hk ho => (World.putObj_heap_other (by omega)).trans (h.block k hk ho)⟩
theorem cell_set_alloc {W : World} {b o : Nat} {u v : Value} {ob : Obj} (h : W.cell? ⟨b, o, none⟩ = some v) (hb : b < W.heap.size) : ((W.setCell ⟨b, o, none⟩ u).alloc ob).cell? ⟨b, o, none⟩ = some u := by
  rw [World.cell?_alloc_lt _ _ _ (by simpa [World.setCell] using hb)]
  exact World.cell?_setCell_same' _ _ _ (by rw [h]; rfl)

def FreeEnd (sb : Nat) (ss : List Sl) (r : Int) (us : List Nat) (w : World) (e : Ending) (w' : World) : Prop :=
  e = .returned (.bool (freeW ss 61 r us).isSome) ∧ Turns sb (sb + 1) w w' ∧ ∀ vs, freeW ss 61 r us = some vs → w'.rowIs sb 161 60 (fun j => .bool (decide (j ∈ vs)))

/-- Between two rounds of the free walk. -/
structure FreeI (sb : Nat) (W2 : World) (ss : List Sl) (r : Int) (us pre : List Nat) (W : World) : Prop where
  row : W.rowIs sb 161 60 (fun j => .bool (decide (j ∈ us ++ pre)))
  old : W2.grownBy W (some sb)
  nd : (us ++ pre).Nodup
  lt : ∀ x ∈ us ++ pre, x < 60
  walk : freeW ss 61 r us = freeW ss (61 - pre.length) (cur ss r pre) (us ++ pre)

theorem FreeI.few {sb : Nat} {W2 : World} {ss : List Sl} {r : Int} {us pre : List Nat} {W : World} (h : FreeI sb W2 ss r us pre W) : us.length + pre.length ≤ 60 := by
  have := nodup_le 60 _ h.nd h.lt
  rwa [List.length_append] at this

theorem freeI_own {sb : Nat} {W2 : World} {ss : List Sl} {r : Int} {us : List Nat} : OwnFrom W2.heap.size (fun pre W => FreeI sb W2 ss r us pre W) := fun pre X Y row hs hg hr =>
  ⟨(own_row sb 161 60 (fun (p : List Nat) j => .bool (decide (j ∈ us ++ p)))) pre X Y row hs.row hg (fun r e => (hr r e).2), (ownFrom_grown (β := Unit) (Nat.le_refl _)) () X Y row hs.old hg hr, hs.nd, hs.lt, hs.walk⟩

set_option maxRecDepth 100000 in
set_option maxHeartbeats 1000000 in
theorem freeOk_any (b sb : Nat) (f l r c : Int) (ss : List Sl) (us : List Nat) (w : World) (h : Lk w b ss f l r c) (hin : InR ss r) (hrow : w.rowIs sb 161 60 (fun j => .bool (decide (j ∈ us)))) (hne : b ≠ sb) (hnd : us.Nodup) (hlt : ∀ x ∈ us, x < 60) :
    Calls Try.prog 135 #[.pointer (some ⟨b, 0, none⟩), .pointer (some ⟨sb, 0, none⟩)] w (FreeEnd sb ss r us w) := by
  have hb := h.lt
  have hsb := hrow.lt
  have Hh := Lib.hid h
  have Hin := Lib.hid hin
  have Hrow := Lib.hid hrow
  have Hnd := Lib.hid hnd
  have Hlt := Lib.hid hlt
  have Hne := Lib.hid hne
  clear h hin hrow hnd hlt hne
  refine callsIn_wide (n := 3).1 (callsIn_of_wp_marks Try.func135 rfl trivial ?_ rfl)
  refine wpIn_wide.2 ?_
  simp only [Try.ntmps135, List.size_toArray, List.length_cons, List.length_nil, Nat.reduceAdd, Nat.reduceSub, Array.replicate_succ, Array.replicate_zero, List.push_toArray, List.append_toArray, List.nil_append, List.cons_append]
  go_wp2_with fail
  obtain ⟨W0, hW0⟩ : ∃ W0, ((w.alloc (.cells #[.pointer (some ⟨b, 0, none⟩)] 150)).alloc (.cells #[.pointer (some ⟨sb, 0, none⟩)] 163)).alloc (.cells #[.bool false] 4) = W0 := ⟨_, rfl⟩
  rw [hW0]
  have hB0 : Below w.heap.size w W0 := by rw [← hW0]; exact (((Below.refl _ _).alloc (Nat.le_refl _) _).alloc (by simp) _).alloc (by simp; omega) _
  have q0 : W0.cell? ⟨w.heap.size, 0, none⟩ = some (.pointer (some ⟨b, 0, none⟩)) := by rw [← hW0]; simp [go_sem]
  have q1 : W0.cell? ⟨w.heap.size + 1, 0, none⟩ = some (.pointer (some ⟨sb, 0, none⟩)) := by rw [← hW0]; simp [go_sem]
  have q2 : W0.cell? ⟨w.heap.size + 1 + 1, 0, none⟩ = some (.bool false) ∧ W0.frozen? ⟨w.heap.size + 1 + 1, 0, none⟩ = false := by rw [← hW0]; simp [go_sem]
  have hs0 : W0.heap.size = w.heap.size + 1 + 1 + 1 := by rw [← hW0]; simp
  have l0 := (Hh.out.below hB0).nums.2.2.1
  have HB0 := Lib.hid hB0
  have hz1 : w.heap.size + 1 + 1 < W0.heap.size := by rw [hs0]; omega
  clear hW0 hs0 hB0
  go_still_tail 5, (by kernel_rfl)
  change wpList _ _ _ _ _ W0.drew
  go_wp2_with fail
  refine (follow_any _ _ _).mono ?_
  rintro e w' ⟨rfl, rfl⟩
  go_wp2_with fail
  obtain ⟨W2, hW2⟩ : ∃ W2, ((W0.alloc (.cells #[.pointer (some ⟨b, 0, none⟩)] 150)).alloc (.cells #[.int .i64 r] 3)).drew = W2 := ⟨_, rfl⟩
  rw [hW2]
  have hB2 : Below W0.heap.size W0 W2 := by rw [← hW2]; exact (((Below.refl _ _).alloc (Nat.le_refl _) _).alloc (by simp) _).drew
  have p0 : W2.cell? ⟨W0.heap.size, 0, none⟩ = some (.pointer (some ⟨b, 0, none⟩)) := by rw [← hW2]; simp [go_sem]
  have p1 : W2.cell? ⟨W0.heap.size + 1, 0, none⟩ = some (.int .i64 r) := by rw [← hW2]; simp [go_sem]
  have hs2 : W2.heap.size = W0.heap.size + 1 + 1 := by rw [← hW2]; show ((W0.alloc _).alloc _).heap.size = _; simp
  have hz2 : W0.heap.size + 1 < W2.heap.size := by rw [hs2]; omega
  clear hs2 hW2
  have q0' : W2.cell? ⟨w.heap.size, 0, none⟩ = some (.pointer (some ⟨b, 0, none⟩)) := (bcl hB2 (by omega)).trans q0
  have q1' : W2.cell? ⟨w.heap.size + 1, 0, none⟩ = some (.pointer (some ⟨sb, 0, none⟩)) := (bcl hB2 (by omega)).trans q1
  have q2' : W2.cell? ⟨w.heap.size + 1 + 1, 0, none⟩ = some (.bool false) := (bcl hB2 (by omega)).trans q2.1
  have q3' : W2.frozen? ⟨w.heap.size + 1 + 1, 0, none⟩ = false := (bfr hB2 (by omega)).trans q2.2
  have hwB : Below w.heap.size w W2 := bel_trans HB0.out hB2
  have HL2 := Lib.hid (Hh.out.below hwB)
  have Hrow2 := Lib.hid (Hrow.out.of_block (hwB.block sb hsb))
  refine wpIn_wide.1 (range_wide (P := Try.prog) (lb := #[.pointer (some ⟨W0.heap.size + 1, 0, none⟩), .pointer (some ⟨W0.heap.size, 0, none⟩)]) rfl (enters_of Try.func127 (by kernel_rfl) rfl) (follow1_seq (W0.heap.size + 1) W0.heap.size b ss f l r c r Hin.out) (fun _ => rfl)
    (fun pre W => FreeI sb W2 ss r us pre W)
    (fun c W => c = .ret ∧ W.cell? ⟨w.heap.size + 1 + 1, 0, none⟩ = some (.bool false) ∧ Turns sb (sb + 1) w W ∧ freeW ss 61 r us = none)
    freeI_own
    (fun c s X Y row hs hg hr => ⟨hs.1, cell_kept hs.2.1 hg (fun r e => (hr r e).2), ⟨hg.os.trans hs.2.2.1.os, hg.tape.trans hs.2.2.1.tape, hg.output.trans hs.2.2.1.output, Nat.le_trans hs.2.2.1.size hg.size, fun k hk ho => (hg.block k (Nat.lt_of_lt_of_le hk hs.2.2.1.size) (fun e => by have := (hr k e.symm).1; have := hwB.size; omega)).trans (hs.2.2.1.block k hk ho)⟩, hs.2.2.2⟩)
    ?hR ⟨Hrow2.out.congr (fun _ _ => by simp), ⟨rfl, rfl, rfl, Nat.le_refl _, fun _ _ _ => rfl⟩, by simpa using Hnd.out, by simpa using Hlt.out, by simp [cur_nil]⟩
    (fun x => { tmps := #[.pointer (some ⟨b, 0, none⟩), .pointer (some ⟨sb, 0, none⟩), .pointer (some ⟨w.heap.size, 0, none⟩), .pointer (some ⟨w.heap.size + 1, 0, none⟩), .pointer (some ⟨w.heap.size + 1 + 1, 0, none⟩), .int .i64 x, undef, .pointer (some ⟨b, 0, none⟩), .pointer (some ⟨b, 0, none⟩), .pointer (some ⟨b, 0, none⟩), .pointer (some ⟨b, 242, none⟩), .int .i64 r,
      .func (.func 127) #[] #[.pointer (some ⟨W0.heap.size + 1, 0, none⟩), .pointer (some ⟨W0.heap.size, 0, none⟩)], .int .i64 x, undef, undef, undef, undef, undef, undef, undef, undef, undef, undef, undef, undef, undef, undef, undef, undef, undef, undef, undef, undef, undef, undef, undef, undef, undef, undef, undef, undef, undef], defers := [] })
    ?assign ?body ?done ?stop)
  case hR =>
    rintro pre W hI
    have hf := hI.few
    have hz := hwB.size
    exact ⟨(gcell hI.old (by omega) (by omega)).trans p1, (gcell hI.old (by omega) (by omega)).trans p0, HL2.out.of_block (hI.old.block b (by omega) (fun e => Hne.out (by injection e))), fun x hx => hI.lt x (by simp [hx]), by omega⟩
  case assign =>
    intro lp x W K hK
    simp only [fEnc]
    gi_wp2
    exact hK
  case body =>
    rintro lp pre x W hI ⟨hcur, hx60⟩
    have hz := hwB.size
    have w0 : W.cell? ⟨w.heap.size, 0, none⟩ = some (.pointer (some ⟨b, 0, none⟩)) := (gcell hI.old (by omega) (by omega)).trans q0'
    have w1 : W.cell? ⟨w.heap.size + 1, 0, none⟩ = some (.pointer (some ⟨sb, 0, none⟩)) := (gcell hI.old (by omega) (by omega)).trans q1'
    have w2 : W.cell? ⟨w.heap.size + 1 + 1, 0, none⟩ = some (.bool false) := (gcell hI.old (by omega) (by omega)).trans q2'
    have w3 : W.frozen? ⟨w.heap.size + 1 + 1, 0, none⟩ = false := (gfroz hI.old (by omega) (by omega)).trans q3'
    have hlk := HL2.out.of_block (hI.old.block b (by omega) (fun e => Hne.out (by injection e)))
    obtain ⟨c0, c1, c2, c3⟩ := hlk.slot hx60
    have hsn := hI.row.cell hx60
    have hsf : W.frozen? ⟨sb, x, none⟩ = false := hI.row.frozen x
    have hzW := hI.old.size
    obtain ⟨F, hF⟩ : ∃ F, 61 - pre.length = F + 1 := ⟨60 - pre.length, by have := hI.few; omega⟩
    have hwk := hI.walk
    rw [hcur, hF] at hwk
    have Hwk := Lib.hid hwk
    have HF := Lib.hid hF
    have HI := Lib.hid hI
    have Hcur := Lib.hid hcur
    have Hs : Hid (sl ss x = sl ss x) := rfl
    clear hwk hF hI hcur hlk q0 q1 q2 q0' q1' q2' q3' p0 p1 l0
    have y0 : w.heap.size < W.heap.size := by omega
    have y1 : w.heap.size + 1 < W.heap.size := by omega
    have y2 : w.heap.size + 1 + 1 < W.heap.size := by omega
    have y3 : sb < W.heap.size := by omega
    have HT : Hid (∀ ob, Turns sb (sb + 1) w ((W.setCell ⟨w.heap.size + 1 + 1, 0, none⟩ (.bool false)).alloc ob)) := fun ob => talloc (tset ((Turns.of_below hwB).trans (gturns HI.out.old)) (by omega) _) ob
    have HC : Hid (∀ ob, ((W.setCell ⟨w.heap.size + 1 + 1, 0, none⟩ (.bool false)).alloc ob).cell? ⟨w.heap.size + 1 + 1, 0, none⟩ = some (.bool false)) := fun ob => cell_set_alloc w2 y2
    by_cases hv : x ∈ us ++ pre
    · rw [decide_eq_true hv] at hsn
      have Hn := Lib.hid (Hwk.out.trans (freeW_seen hx60 hv))
      clear hv
      generalize sl ss x = s at c0 c1 c2 c3
      gi_wp2
      exact ⟨((KeepsOthers.setCell _ _ _).trans (KeepsOthers.alloc _ _)).from _, rfl, HC.out _, HT.out _, Hn.out⟩
    · rw [decide_eq_false hv] at hsn
      have Hv := Lib.hid hv
      clear hv
      cases hok : okF (sl ss x)
      · have Hn := Lib.hid (Hwk.out.trans (freeW_bad hx60 hok))
        have Hok := Lib.hid hok
        clear hok
        obtain ⟨s, hs⟩ : ∃ s, sl ss x = s := ⟨_, rfl⟩
        rw [hs] at c0 c1 c2 c3
        have Hok' : Hid (okF s = false) := by rw [← hs]; exact Hok.out
        clear hs Hok
        obtain ⟨id, prev, next, used⟩ := s
        dsimp only at c0 c1 c2 c3
        cases used
        · by_cases hi : id = 0
          · subst hi
            have hp : prev ≠ -1 := by rintro rfl; exact absurd Hok'.out (by simp [okF])
            have hp1 : (prev == -1) = false := beq_eq_false_iff_ne.2 hp
            have hp2 : (prev != -1) = true := by simp [hp]
            clear hp
            gi_wp2
            exact ⟨((KeepsOthers.setCell _ _ _).trans (KeepsOthers.alloc _ _)).from _, rfl, HC.out _, HT.out _, Hn.out⟩
          · have hi1 : (id == 0) = false := beq_eq_false_iff_ne.2 hi
            have hi2 : (id != 0) = true := by simp [hi]
            clear hi
            gi_wp2
            exact ⟨((KeepsOthers.setCell _ _ _).trans (KeepsOthers.alloc _ _)).from _, rfl, HC.out _, HT.out _, Hn.out⟩
        · gi_wp2
          exact ⟨((KeepsOthers.setCell _ _ _).trans (KeepsOthers.alloc _ _)).from _, rfl, HC.out _, HT.out _, Hn.out⟩
      · have Hn := Lib.hid (Hwk.out.trans (freeW_next hx60 Hv.out hok))
        have HQ : Hid (∀ ob, FreeI sb W2 ss r us (pre ++ [x]) ((W.setCell ⟨sb, x, none⟩ (.bool true)).alloc ob)) := fun ob => by
          have e : us ++ (pre ++ [x]) = (us ++ pre) ++ [x] := by simp
          refine ⟨?_, gtrans HI.out.old (gtrans (gset W sb x _) (galloc _ ob _)), by rw [e]; exact nodup_snoc HI.out.nd Hv.out, by rw [e]; exact lt_snoc HI.out.lt hx60, ?_⟩
          · refine ((HI.out.row.set x (.bool true)).alloc ob).congr (fun j _ => ?_)
            rw [e]
            by_cases ej : j = x
            · subst ej; simp
            · rw [if_neg ej]; simp [ej]
          · rw [e, cur_snoc, Hn.out]
            have := HF.out
            rw [show 61 - (pre ++ [x]).length = F from by rw [List.length_append, List.length_singleton]; omega]
        obtain ⟨s, hs⟩ : ∃ s, sl ss x = s := ⟨_, rfl⟩
        rw [hs] at c0 c1 c2 c3 hok
        have Hok := Lib.hid hok
        clear hs hok
        obtain ⟨id, prev, next, used⟩ := s
        dsimp only at c0 c1 c2 c3
        have hk := Hok.out
        unfold okF at hk
        simp at hk
        obtain ⟨⟨rfl, rfl⟩, rfl⟩ := hk
        gi_wp2
        exact ⟨((KeepsOthers.setCell _ _ _).trans (KeepsOthers.alloc _ _)).from _, HQ.out _⟩
  case done =>
    rintro D xs W hD hS hI hK
    have hz := hwB.size
    have w2 : W.cell? ⟨w.heap.size + 1 + 1, 0, none⟩ = some (.bool false) := (gcell hI.old (by omega) (by omega)).trans q2'
    have w3 : W.frozen? ⟨w.heap.size + 1 + 1, 0, none⟩ = false := (gfroz hI.old (by omega) (by omega)).trans q3'
    have hfin : freeW ss 61 r us = some (us ++ xs) := by
      have h1 := hI.walk
      rw [show cur ss r xs = -1 from hS] at h1
      have := hI.few
      rw [show 61 - xs.length = (60 - xs.length) + 1 from by omega] at h1
      exact h1.trans freeW_nil
    have Hfin := Lib.hid hfin
    have HI := Lib.hid hI
    clear hfin hI hS q0 q1 q2 q0' q1' q2' q3' p0 p1 l0
    have hK2 : (W.setCell ⟨w.heap.size + 1 + 1, 0, none⟩ (.bool true)).heap[D]? = some (.deferred (some [])) := (KeepsOthers.setCell W ⟨w.heap.size + 1 + 1, 0, none⟩ (.bool true)).same D _ hK rfl
    go_wp2
    refine ⟨by simp, .inl ⟨_, _, rfl, run_takeDeferred hK2, ?_⟩⟩
    have hcell := put_cell hK2 (World.cell?_setCell_same' W ⟨w.heap.size + 1 + 1, 0, none⟩ (.bool true) (by rw [w2]; rfl))
    refine ⟨.bool true, by simp [results, Try.results135, go_sem, hcell], by rw [Hfin.out]; rfl, tput (tset ((Turns.of_below hwB).trans (gturns HI.out.old)) (by omega) _) (by omega) _, fun vs hvs => ?_⟩
    obtain rfl : us ++ xs = vs := by rw [Hfin.out] at hvs; injection hvs
    exact (HI.out.row.setOther (by show sb ≠ w.heap.size + 1 + 1; omega) _).of_block (World.putObj_heap_other (by omega))
  case stop =>
    rintro D cc W hD ⟨rfl, hc, ht, hf⟩ hK
    have Hf := Lib.hid hf
    have Ht := Lib.hid ht
    clear hf ht
    have hz := hwB.size
    refine wpIn_wide.2 ?_
    go_wp2
    refine ⟨by simp, .inl ⟨_, _, rfl, run_takeDeferred hK, ?_⟩⟩
    have hcell := put_cell hK hc
    exact ⟨.bool false, by simp [results, Try.results135, go_sem, hcell], by rw [Hf.out]; rfl, tput Ht.out (by omega) _, fun vs hvs => by rw [Hf.out] at hvs; cases hvs⟩
end Go.Proofs.Ytehdbdolhkflcaa.Que

namespace Go.Proofs.Ytehdbdolhkflcaa.Que
open Go.RowKit Go.Deep Base Rng Go.Shelf
attribute [local go_sem] Oper.semAt_some

def aheadOf (pre : List Nat) : Int := match pre.getLast? with
  | none => -1
  | some x => (x : Int)
theorem aheadOf_nil : aheadOf [] = -1 := rfl
theorem aheadOf_snoc (pre : List Nat) (x : Nat) : aheadOf (pre ++ [x]) = (x : Int) := by simp [aheadOf]

/-- What the walk over the used slots comes to. -/
def usedB (ss : List Sl) (f l c : Int) : Bool := match usedW ss 61 f (-1) [] with
  | none => false
  | some (us, a) => (a == l) && ((us.length : Int) == c)

def UsedEnd (sb : Nat) (ss : List Sl) (f l c : Int) (w : World) (e : Ending) (w' : World) : Prop :=
  e = .returned (.bool (usedB ss f l c)) ∧ Turns sb (sb + 1) w w' ∧ ∀ us a, usedW ss 61 f (-1) [] = some (us, a) → w'.rowIs sb 161 60 (fun j => .bool (decide (j ∈ us)))

/-- Between two rounds of the used walk: bb is the box of 'before', mb the map. -/
structure UsedI (sb bb mb : Nat) (W2 : World) (ss : List Sl) (f : Int) (pre : List Nat) (W : World) : Prop where
  row : W.rowIs sb 161 60 (fun j => .bool (decide (j ∈ pre)))
  bef : W.heap[bb]? = some (.cells #[.int .i64 (aheadOf pre)] 3 (0, 0))
  ids : W.heap[mb]? = some (mapObj (idsOf ss pre))
  os : W.os = W2.os
  tape : W.tape = W2.tape
  output : W.output = W2.output
  size : W2.heap.size ≤ W.heap.size
  old : ∀ k, k < W2.heap.size → k ≠ sb → k ≠ bb → k ≠ mb → W.heap[k]? = W2.heap[k]?
  nd : pre.Nodup
  lt : ∀ x ∈ pre, x < 60
  walk : usedW ss 61 f (-1) [] = usedW ss (61 - pre.length) (cur ss f pre) (aheadOf pre) pre

theorem UsedI.few {sb bb mb : Nat} {W2 : World} {ss : List Sl} {f : Int} {pre : List Nat} {W : World} (h : UsedI sb bb mb W2 ss f pre W) : pre.length ≤ 60 := nodup_le 60 _ h.nd h.lt
theorem UsedI.cell {sb bb mb : Nat} {W2 : World} {ss : List Sl} {f : Int} {pre : List Nat} {W : World} (h : UsedI sb bb mb W2 ss f pre W) {k o : Nat} (hk : k < W2.heap.size) (h1 : k ≠ sb) (h2 : k ≠ bb) (h3 : k ≠ mb) : W.cell? ⟨k, o, none⟩ = W2.cell? ⟨k, o, none⟩ :=
  World.cell?_of_block (w := W2) (h.old k hk h1 h2 h3)
theorem UsedI.froz {sb bb mb : Nat} {W2 : World} {ss : List Sl} {f : Int} {pre : List Nat} {W : World} (h : UsedI sb bb mb W2 ss f pre W) {k o : Nat} (hk : k < W2.heap.size) (h1 : k ≠ sb) (h2 : k ≠ bb) (h3 : k ≠ mb) : W.frozen? ⟨k, o, none⟩ = W2.frozen? ⟨k, o, none⟩ :=
  World.frozen?_of_block (w := W2) (h.old k hk h1 h2 h3)

theorem usedI_own {sb bb mb : Nat} {W2 : World} {ss : List Sl} {f : Int} (hb : bb < W2.heap.size) (hm : mb < W2.heap.size) (hs : sb < W2.heap.size) : OwnFrom W2.heap.size (fun pre W => UsedI sb bb mb W2 ss f pre W) := fun pre X Y row hs' hg hr => by
  have hk : ∀ k, k < W2.heap.size → Y.heap[k]? = X.heap[k]? := fun k hk => hg.block k (Nat.lt_of_lt_of_le hk hs'.size) (fun e => by have := (hr k e.symm).1; omega)
  exact ⟨hs'.row.of_block (hk sb hs), (hk bb hb).trans hs'.bef, (hk mb hm).trans hs'.ids, hg.os.trans hs'.os, hg.tape.trans hs'.tape, hg.output.trans hs'.output, Nat.le_trans hs'.size hg.size, fun k h0 h1 h2 h3 => (hk k h0).trans (hs'.old k h0 h1 h2 h3), hs'.nd, hs'.lt, hs'.walk⟩

theorem UsedI.turns {sb bb mb : Nat} {w W2 : World} {ss : List Sl} {f : Int} {pre : List Nat} {W : World} (h : UsedI sb bb mb W2 ss f pre W) (hw : Below w.heap.size w W2) (hb : w.heap.size ≤ bb) (hm : w.heap.size ≤ mb) : Turns sb (sb + 1) w W :=
  ⟨h.os.trans hw.os, h.tape.trans hw.tape, h.output.trans hw.output, Nat.le_trans hw.size h.size, fun k hk ho => (h.old k (Nat.lt_of_lt_of_le hk hw.size) (by omega) (by omega) (by omega)).trans (hw.block k hk)⟩

theorem tdrew {lo hi : Nat} {w W : World} (h : Turns lo hi w W) : Turns lo hi w W.drew := ⟨h.os, h.tape, h.output, h.size, h.block⟩

set_option maxRecDepth 100000 in
set_option maxHeartbeats 1000000 in
theorem usedOk_any (b sb : Nat) (f l r c : Int) (ss : List Sl) (w : World) (h : Lk w b ss f l r c) (hin : InR ss f) (hrow : w.rowIs sb 161 60 (fun _ => .bool false)) (hne : b ≠ sb) :
    Calls Try.prog 134 #[.pointer (some ⟨b, 0, none⟩), .pointer (some ⟨sb, 0, none⟩)] w (UsedEnd sb ss f l c w) := by
  have hb := h.lt
  have hsb := hrow.lt
  have Hh := Lib.hid h
  have Hin := Lib.hid hin
  have Hrow := Lib.hid hrow
  have Hne := Lib.hid hne
  clear h hin hrow hne
  have hmm := @run_makeMap Try.prog
  refine callsIn_wide (n := 3).1 (callsIn_of_wp_marks Try.func134 rfl trivial ?_ rfl)
  refine wpIn_wide.2 ?_
  simp only [Try.ntmps134, List.size_toArray, List.length_cons, List.length_nil, Nat.reduceAdd, Nat.reduceSub, Array.replicate_succ, Array.replicate_zero, List.push_toArray, List.append_toArray, List.nil_append, List.cons_append]
  go_wp2_with fail
  clear hmm
  obtain ⟨W0, hW0⟩ : ∃ W0, (((((w.alloc (.cells #[.pointer (some ⟨b, 0, none⟩)] 150)).alloc (.cells #[.pointer (some ⟨sb, 0, none⟩)] 163)).alloc (.cells #[.bool false] 4)).alloc (.cells #[.int .i64 (-1)] 3)).alloc (.map #[] 0)).alloc (.cells #[.map (some (w.heap.size + 1 + 1 + 1 + 1))] 118) = W0 := ⟨_, rfl⟩
  rw [hW0]
  have hB0 : Below w.heap.size w W0 := by rw [← hW0]; exact ((((((Below.refl _ _).alloc (Nat.le_refl _) _).alloc (by simp) _).alloc (by simp; omega) _).alloc (by simp; omega) _).alloc (by simp; omega) _).alloc (by simp; omega) _
  have q0 : W0.cell? ⟨w.heap.size, 0, none⟩ = some (.pointer (some ⟨b, 0, none⟩)) := by rw [← hW0]; simp [go_sem]
  have q1 : W0.cell? ⟨w.heap.size + 1, 0, none⟩ = some (.pointer (some ⟨sb, 0, none⟩)) := by rw [← hW0]; simp [go_sem]
  have q2 : W0.cell? ⟨w.heap.size + 1 + 1, 0, none⟩ = some (.bool false) ∧ W0.frozen? ⟨w.heap.size + 1 + 1, 0, none⟩ = false := by rw [← hW0]; simp [go_sem]
  have q4 : W0.heap[w.heap.size + 1 + 1 + 1]? = some (.cells #[.int .i64 (-1)] 3 (0, 0)) := by
    rw [← hW0, Below.heap_alloc _ _ _ (by simp), Below.heap_alloc _ _ _ (by simp)]
    have := heap_alloc_new (((w.alloc (.cells #[.pointer (some ⟨b, 0, none⟩)] 150)).alloc (.cells #[.pointer (some ⟨sb, 0, none⟩)] 163)).alloc (.cells #[.bool false] 4)) (.cells #[.int .i64 (-1)] 3)
    simp only [World.size_alloc] at this
    exact this
  have q5 : W0.heap[w.heap.size + 1 + 1 + 1 + 1]? = some (mapObj []) := by
    rw [← hW0, Below.heap_alloc _ _ _ (by simp)]
    have := heap_alloc_new ((((w.alloc (.cells #[.pointer (some ⟨b, 0, none⟩)] 150)).alloc (.cells #[.pointer (some ⟨sb, 0, none⟩)] 163)).alloc (.cells #[.bool false] 4)).alloc (.cells #[.int .i64 (-1)] 3)) (.map #[] 0)
    simp only [World.size_alloc] at this
    exact this
  have q6 : W0.cell? ⟨w.heap.size + 1 + 1 + 1 + 1 + 1, 0, none⟩ = some (.map (some (w.heap.size + 1 + 1 + 1 + 1))) := by rw [← hW0]; simp [go_sem]
  have hs0 : W0.heap.size = w.heap.size + 1 + 1 + 1 + 1 + 1 + 1 := by rw [← hW0]; simp
  have l0 := (Hh.out.below hB0).nums.1
  have HB0 := Lib.hid hB0
  have hz1 : w.heap.size + 1 + 1 + 1 + 1 + 1 < W0.heap.size := by rw [hs0]; omega
  have Q4 := Lib.hid q4
  have Q5 := Lib.hid q5
  clear hW0 hs0 hB0 q4 q5
  go_still_tail 5, (by kernel_rfl)
  change wpList _ _ _ _ _ W0.drew
  go_wp2_with fail
  refine (follow_any _ _ _).mono ?_
  rintro e w' ⟨rfl, rfl⟩
  go_wp2_with fail
  obtain ⟨W2, hW2⟩ : ∃ W2, ((W0.alloc (.cells #[.pointer (some ⟨b, 0, none⟩)] 150)).alloc (.cells #[.int .i64 f] 3)).drew = W2 := ⟨_, rfl⟩
  rw [hW2]
  have hB2 : Below W0.heap.size W0 W2 := by rw [← hW2]; exact (((Below.refl _ _).alloc (Nat.le_refl _) _).alloc (by simp) _).drew
  have p0 : W2.cell? ⟨W0.heap.size, 0, none⟩ = some (.pointer (some ⟨b, 0, none⟩)) := by rw [← hW2]; simp [go_sem]
  have p1 : W2.cell? ⟨W0.heap.size + 1, 0, none⟩ = some (.int .i64 f) := by rw [← hW2]; simp [go_sem]
  have hs2 : W2.heap.size = W0.heap.size + 1 + 1 := by rw [← hW2]; show ((W0.alloc _).alloc _).heap.size = _; simp
  have hz2 : W0.heap.size + 1 < W2.heap.size := by rw [hs2]; omega
  clear hs2 hW2
  have q0' : W2.cell? ⟨w.heap.size, 0, none⟩ = some (.pointer (some ⟨b, 0, none⟩)) := (bcl hB2 (by omega)).trans q0
  have q1' : W2.cell? ⟨w.heap.size + 1, 0, none⟩ = some (.pointer (some ⟨sb, 0, none⟩)) := (bcl hB2 (by omega)).trans q1
  have q2' : W2.cell? ⟨w.heap.size + 1 + 1, 0, none⟩ = some (.bool false) := (bcl hB2 (by omega)).trans q2.1
  have q3' : W2.frozen? ⟨w.heap.size + 1 + 1, 0, none⟩ = false := (bfr hB2 (by omega)).trans q2.2
  have q6' : W2.cell? ⟨w.heap.size + 1 + 1 + 1 + 1 + 1, 0, none⟩ = some (.map (some (w.heap.size + 1 + 1 + 1 + 1))) := (bcl hB2 (by omega)).trans q6
  have hwB : Below w.heap.size w W2 := bel_trans HB0.out hB2
  have HL2 := Lib.hid (Hh.out.below hwB)
  have Hrow2 := Lib.hid (Hrow.out.of_block (hwB.block sb hsb))
  have hz := hwB.size
  refine wpIn_wide.1 (range_wide (P := Try.prog) (lb := #[.pointer (some ⟨W0.heap.size + 1, 0, none⟩), .pointer (some ⟨W0.heap.size, 0, none⟩)]) rfl (enters_of Try.func127 (by kernel_rfl) rfl) (follow1_seq (W0.heap.size + 1) W0.heap.size b ss f l r c f Hin.out) (fun _ => rfl)
    (fun pre W => UsedI sb (w.heap.size + 1 + 1 + 1) (w.heap.size + 1 + 1 + 1 + 1) W2 ss f pre W)
    (fun c W => c = .ret ∧ W.cell? ⟨w.heap.size + 1 + 1, 0, none⟩ = some (.bool false) ∧ Turns sb (sb + 1) w W ∧ usedW ss 61 f (-1) [] = none)
    (usedI_own (by omega) (by omega) (by omega))
    (fun c s X Y row hs hg hr => ⟨hs.1, cell_kept hs.2.1 hg (fun r e => (hr r e).2), ⟨hg.os.trans hs.2.2.1.os, hg.tape.trans hs.2.2.1.tape, hg.output.trans hs.2.2.1.output, Nat.le_trans hs.2.2.1.size hg.size, fun k hk ho => (hg.block k (Nat.lt_of_lt_of_le hk hs.2.2.1.size) (fun e => by have := (hr k e.symm).1; omega)).trans (hs.2.2.1.block k hk ho)⟩, hs.2.2.2⟩)
    ?hR ⟨Hrow2.out.congr (fun _ _ => by simp), (hB2.block _ (by omega)).trans Q4.out, (hB2.block _ (by omega)).trans Q5.out, rfl, rfl, rfl, Nat.le_refl _, fun _ _ _ _ _ => rfl, by simp, by simp, rfl⟩
    (fun x => { tmps := #[.pointer (some ⟨b, 0, none⟩), .pointer (some ⟨sb, 0, none⟩), .pointer (some ⟨w.heap.size, 0, none⟩), .pointer (some ⟨w.heap.size + 1, 0, none⟩), .pointer (some ⟨w.heap.size + 1 + 1, 0, none⟩), .pointer (some ⟨w.heap.size + 1 + 1 + 1, 0, none⟩), .pointer (some ⟨w.heap.size + 1 + 1 + 1 + 1 + 1, 0, none⟩), .int .i64 x, undef, .map (some (w.heap.size + 1 + 1 + 1 + 1)), .pointer (some ⟨b, 0, none⟩), .pointer (some ⟨b, 0, none⟩), .pointer (some ⟨b, 0, none⟩), .pointer (some ⟨b, 240, none⟩), .int .i64 f,
      .func (.func 127) #[] #[.pointer (some ⟨W0.heap.size + 1, 0, none⟩), .pointer (some ⟨W0.heap.size, 0, none⟩)], .int .i64 x, undef, undef, undef, undef, undef, undef, undef, undef, undef, undef, undef, undef, undef, undef, undef, undef, undef, undef, undef, undef, undef, undef, undef, undef, undef, undef, undef, undef, undef, undef, undef, undef, undef, undef, undef, undef, undef, undef, undef, undef, undef, undef, undef, undef, undef, undef, undef, undef, undef, undef], defers := [] })
    ?assign ?body ?done ?stop)
  case hR =>
    rintro pre W hI
    exact ⟨(hI.cell (by omega) (by omega) (by omega) (by omega)).trans p1, (hI.cell (by omega) (by omega) (by omega) (by omega)).trans p0, HL2.out.of_block (hI.old b (by omega) Hne.out (by omega) (by omega)), hI.lt, hI.few⟩
  case assign =>
    intro lp x W K hK
    simp only [fEnc]
    gi_wp2
    exact hK
  case body =>
    rintro lp pre x W hI ⟨hcur, hx60⟩
    have w0 : W.cell? ⟨w.heap.size, 0, none⟩ = some (.pointer (some ⟨b, 0, none⟩)) := (hI.cell (by omega) (by omega) (by omega) (by omega)).trans q0'
    have w1 : W.cell? ⟨w.heap.size + 1, 0, none⟩ = some (.pointer (some ⟨sb, 0, none⟩)) := (hI.cell (by omega) (by omega) (by omega) (by omega)).trans q1'
    have w2 : W.cell? ⟨w.heap.size + 1 + 1, 0, none⟩ = some (.bool false) := (hI.cell (by omega) (by omega) (by omega) (by omega)).trans q2'
    have w3 : W.frozen? ⟨w.heap.size + 1 + 1, 0, none⟩ = false := (hI.froz (by omega) (by omega) (by omega) (by omega)).trans q3'
    have w6 : W.cell? ⟨w.heap.size + 1 + 1 + 1 + 1 + 1, 0, none⟩ = some (.map (some (w.heap.size + 1 + 1 + 1 + 1))) := (hI.cell (by omega) (by omega) (by omega) (by omega)).trans q6'
    have w4 : W.cell? ⟨w.heap.size + 1 + 1 + 1, 0, none⟩ = some (.int .i64 (aheadOf pre)) := by rw [cell_of_row _ _ 0 _ _ (0, 0) hI.bef]; rfl
    have w5 : W.frozen? ⟨w.heap.size + 1 + 1 + 1, 0, none⟩ = false := by simp [World.frozen?, hI.bef]
    obtain ⟨c0, c1, c2, c3⟩ := (HL2.out.of_block (hI.old b (by omega) Hne.out (by omega) (by omega))).slot hx60
    have hsn := hI.row.cell hx60
    have hsf : W.frozen? ⟨sb, x, none⟩ = false := hI.row.frozen x
    have hzW := hI.size
    obtain ⟨F, hF⟩ : ∃ F, 61 - pre.length = F + 1 := ⟨60 - pre.length, by have := hI.few; omega⟩
    have hwk := hI.walk
    rw [hcur, hF] at hwk
    have Hwk := Lib.hid hwk
    have HF := Lib.hid hF
    have HI := Lib.hid hI
    have Hcur := Lib.hid hcur
    clear hwk hF hI hcur q0 q1 q2 q6 q0' q1' q2' q3' q6' p0 p1 l0
    have y0 : w.heap.size < W.heap.size := by omega
    have y1 : w.heap.size + 1 < W.heap.size := by omega
    have y2 : w.heap.size + 1 + 1 < W.heap.size := by omega
    have y3 : w.heap.size + 1 + 1 + 1 < W.heap.size := by omega
    have y5 : w.heap.size + 1 + 1 + 1 + 1 + 1 < W.heap.size := by omega
    have ys : sb < W.heap.size := by omega
    have hx0 : (0 : Int) ≤ (x : Int) := by omega
    have hx1 : (x : Int) < 60 := by omega
    have HT : Hid (∀ ob, Turns sb (sb + 1) w ((W.setCell ⟨w.heap.size + 1 + 1, 0, none⟩ (.bool false)).alloc ob)) := fun ob => talloc (tset (HI.out.turns hwB (by omega) (by omega)) (by omega) _) ob
    have HC : Hid (∀ ob, ((W.setCell ⟨w.heap.size + 1 + 1, 0, none⟩ (.bool false)).alloc ob).cell? ⟨w.heap.size + 1 + 1, 0, none⟩ = some (.bool false)) := fun ob => cell_set_alloc w2 y2
    obtain ⟨s, hs⟩ : ∃ s, sl ss x = s := ⟨_, rfl⟩
    obtain ⟨id, prev, next, used⟩ := s
    have Hok := Lib.hid (okU_eq (vis := pre) (a := aheadOf pre) hs)
    rw [hs] at c0 c1 c2 c3
    have Hs := Lib.hid hs
    clear hs
    dsimp only at c0 c1 c2 c3
    have hlk := look_ids (w := W.alloc (.cells #[.int .i64 id, .int .i64 prev, .int .i64 next, .bool used] 122)) ((Below.heap_alloc W _ _ (by omega)).trans HI.out.ids) id
    have Hlk := Lib.hid hlk
    clear hlk
    generalize hah : aheadOf pre = ah at w4 Hok Hwk
    have Hah := Lib.hid hah
    clear hah
    cases used
    · have Hn := Lib.hid (Hwk.out.trans (usedW_bad hx60 (by rw [Hok.out]; rfl)))
      gi_wp2
      refine ⟨trivial, ?_⟩
      gi_wp2
      exact ⟨((KeepsOthers.setCell _ _ _).trans (KeepsOthers.alloc _ _)).from _, rfl, HC.out _, HT.out _, Hn.out⟩
    cases hid : idB id
    · have Hid1 := Lib.hid hid
      have Hn := Lib.hid (Hwk.out.trans (usedW_bad hx60 (by
        rw [Hok.out]
        have := hid
        unfold idB at this
        revert this
        cases decide (1 ≤ id) <;> cases decide (id ≤ 1000000000) <;> simp)))
      clear hid
      gi_wp2_with fail
      refine ⟨trivial, (CallsIn.inRound lp (callsIn_wide.2 (idOk_any id _))).mono ?_⟩
      rintro e w' ⟨rfl, rfl⟩
      rw [Hid1.out]
      gi_wp2
      exact ⟨((KeepsOthers.setCell _ _ _).trans (KeepsOthers.alloc _ _)).from _, rfl, HC.out _, HT.out _, Hn.out⟩
    have Hid1 := Lib.hid hid
    clear hid
    cases hco : (idsOf ss pre).contains id
    · have hlk := Hlk.out
      rw [hco] at hlk
      have Hco := Lib.hid hco
      clear hco
      by_cases hpa : prev = ah
      · subst hpa
        have hok : okU ss pre prev x = true := by
          have h1 := Hid1.out
          unfold idB at h1
          rw [Bool.and_eq_true] at h1
          rw [Hok.out, Hco.out, h1.1, h1.2]; simp
        have hnv : x ∉ pre := fun hm => by
          have h2 := Hco.out
          have h3 : (sl ss x).id ∈ idsOf ss pre := List.mem_map.2 ⟨x, hm, rfl⟩
          rw [Hs.out] at h3
          simp at h2
          exact h2 h3
        have Hn := Lib.hid (Hwk.out.trans (usedW_next hx60 hnv hok))
        have Hnv := Lib.hid hnv
        clear hok hnv
        obtain ⟨sbox, hsbox⟩ : ∃ sbox, Obj.cells #[.int .i64 id, .int .i64 prev, .int .i64 next, .bool true] 122 = sbox := ⟨_, rfl⟩
        obtain ⟨V, hV⟩ : ∃ V, ((W.setCell ⟨sb, x, none⟩ (.bool true)).alloc sbox).drew = V := ⟨_, rfl⟩
        have hVb : ∀ k, k < W.heap.size → k ≠ sb → V.heap[k]? = W.heap[k]? := fun k hk hne => by
          rw [← hV]
          show ((W.setCell ⟨sb, x, none⟩ (.bool true)).alloc sbox).heap[k]? = _
          rw [Below.heap_alloc _ _ _ (by simpa [World.setCell] using hk), Below.heap_setCell _ _ _ _ hne]
        have hids : V.heap[w.heap.size + 1 + 1 + 1 + 1]? = some (mapObj (idsOf ss pre)) := (hVb _ (by omega) (by omega)).trans HI.out.ids
        have hup := put_ids hids Hco.out
        obtain ⟨M, hM⟩ : ∃ M, V.putObj (w.heap.size + 1 + 1 + 1 + 1) (mapObj (idsOf ss pre ++ [id])) = M := ⟨_, rfl⟩
        have hMb : ∀ k, k < W.heap.size → k ≠ sb → k ≠ w.heap.size + 1 + 1 + 1 + 1 → M.heap[k]? = W.heap[k]? := fun k hk hne hnm => by
          rw [← hM]
          exact (World.putObj_heap_other hnm).trans (hVb k hk hne)
        have m4 : M.cell? ⟨w.heap.size + 1 + 1 + 1, 0, none⟩ = some (.int .i64 prev) := (World.cell?_of_block (w := W) (hMb (w.heap.size + 1 + 1 + 1) (by omega) (by omega) (by omega))).trans w4
        have m5 : M.frozen? ⟨w.heap.size + 1 + 1 + 1, 0, none⟩ = false := (World.frozen?_of_block (w := W) (hMb (w.heap.size + 1 + 1 + 1) (by omega) (by omega) (by omega))).trans w5
        rw [hM, ← hV, ← hsbox] at hup
        have HQ : Hid (KeepsFrom W2.heap.size W (M.setCell ⟨w.heap.size + 1 + 1 + 1, 0, none⟩ (.int .i64 (x : Int))) ∧ UsedI sb (w.heap.size + 1 + 1 + 1) (w.heap.size + 1 + 1 + 1 + 1) W2 ss f (pre ++ [x]) (M.setCell ⟨w.heap.size + 1 + 1 + 1, 0, none⟩ (.int .i64 (x : Int)))) := by
          have hset : ∀ k, k ≠ w.heap.size + 1 + 1 + 1 → (M.setCell ⟨w.heap.size + 1 + 1 + 1, 0, none⟩ (.int .i64 (x : Int))).heap[k]? = M.heap[k]? := fun k hk => Below.heap_setCell _ _ _ k hk
          have hsM : M.heap.size = W.heap.size + 1 := by
            rw [← hM, ← hV]
            show (World.putObj _ _ _).heap.size = _
            simp [World.putObj, World.setCell]
          have hmM : M.heap[w.heap.size + 1 + 1 + 1 + 1]? = some (mapObj (idsOf ss pre ++ [id])) := by
            rw [← hM]; exact World.putObj_heap_same (Array.getElem?_eq_some_iff.1 hids).1
          have hrM : M.rowIs sb 161 60 (fun j => .bool (decide (j ∈ pre ++ [x]))) := by
            have h1 := ((HI.out.row.set x (.bool true)).alloc sbox).congr (g := fun j => .bool (decide (j ∈ pre ++ [x]))) (fun j _ => by
              by_cases ej : j = x
              · subst ej; simp
              · rw [if_neg ej]; simp [ej])
            rw [← hM]
            refine World.rowIs.of_block (w := V) ?_ (World.putObj_heap_other (by omega))
            rw [← hV]; exact h1
          have hb4 : (M.setCell ⟨w.heap.size + 1 + 1 + 1, 0, none⟩ (.int .i64 (x : Int))).heap[w.heap.size + 1 + 1 + 1]? = some (.cells #[.int .i64 (x : Int)] 3 (0, 0)) := by
            have h0 := (hMb (w.heap.size + 1 + 1 + 1) (by omega) (by omega) (by omega)).trans HI.out.bef
            simp [World.setCell, Array.getElem?_modify, h0]
          have hos : M.os = W.os ∧ M.tape = W.tape ∧ M.output = W.output := by rw [← hM, ← hV]; exact ⟨rfl, rfl, rfl⟩
          have hsz : (M.setCell ⟨w.heap.size + 1 + 1 + 1, 0, none⟩ (.int .i64 (x : Int))).heap.size = W.heap.size + 1 := by simp [World.setCell, hsM]
          refine ⟨⟨by omega, fun k o hk ho hc => ?_⟩, ⟨?_, ?_, ?_, hos.1.trans HI.out.os, hos.2.1.trans HI.out.tape, hos.2.2.trans HI.out.output, by omega, fun k h0 h1 h2 h3 => ?_, nodup_snoc HI.out.nd Hnv.out, lt_snoc HI.out.lt hx60, ?_⟩⟩
          · have hkW : k < W.heap.size := (Array.getElem?_eq_some_iff.1 ho).1
            rw [hset k (by omega), hMb k hkW (by omega) (by omega)]; exact ho
          · exact hrM.of_block (hset sb (by omega))
          · rw [aheadOf_snoc]; exact hb4
          · rw [hset _ (by omega), hmM, idsOf_snoc, Hs.out]
          · rw [hset k h2, hMb k (by omega) h1 h3]; exact HI.out.old k h0 h1 h2 h3
          · rw [Hn.out, cur_snoc, aheadOf_snoc, Hs.out]
            have := HF.out
            rw [show 61 - (pre ++ [x]).length = F from by rw [List.length_append, List.length_singleton]; omega]
        have HSM : Hid (M.cell? ⟨w.heap.size + 1, 0, none⟩ = some (.pointer (some ⟨sb, 0, none⟩)) ∧ M.cell? ⟨w.heap.size + 1 + 1 + 1 + 1 + 1, 0, none⟩ = some (.map (some (w.heap.size + 1 + 1 + 1 + 1))) ∧ M.cell? ⟨W.heap.size, 0, none⟩ = some (.int .i64 id)) := by
          refine ⟨(World.cell?_of_block (w := W) (hMb (w.heap.size + 1) (by omega) (by omega) (by omega))).trans w1, (World.cell?_of_block (w := W) (hMb (w.heap.size + 1 + 1 + 1 + 1 + 1) (by omega) (by omega) (by omega))).trans w6, ?_⟩
          refine (World.cell?_of_block (w := V) (show M.heap[W.heap.size]? = V.heap[W.heap.size]? from by rw [← hM]; exact World.putObj_heap_other (by omega))).trans ?_
          rw [← hV, ← hsbox]
          show ((W.setCell ⟨sb, x, none⟩ (.bool true)).alloc _).cell? _ = _
          simp [go_sem]
        clear hids hVb hMb hM hV hsbox
        gi_wp2_with fail
        refine ⟨trivial, (CallsIn.inRound lp (callsIn_wide.2 (idOk_any id _))).mono ?_⟩
        rintro e w' ⟨rfl, rfl⟩
        rw [Hid1.out]
        gi_wp2
        have n5 : sb ≠ w.heap.size + 1 + 1 + 1 + 1 + 1 := by omega
        refine held_round (fun V => V.cell? ⟨w.heap.size + 1, 0, none⟩ = some (.pointer (some ⟨sb, 0, none⟩)) ∧ V.cell? ⟨w.heap.size + 1 + 1 + 1 + 1 + 1, 0, none⟩ = some (.map (some (w.heap.size + 1 + 1 + 1 + 1))) ∧ V.cell? ⟨W.heap.size, 0, none⟩ = some (.int .i64 id)) (by kernel_rfl) (by kernel_rfl) ?hlo ?_
        case hlo => rintro ⟨_, _, h⟩; exact h
        have hS0 : (fun V : World => V.cell? ⟨w.heap.size + 1, 0, none⟩ = some (.pointer (some ⟨sb, 0, none⟩)) ∧ V.cell? ⟨w.heap.size + 1 + 1 + 1 + 1 + 1, 0, none⟩ = some (.map (some (w.heap.size + 1 + 1 + 1 + 1))) ∧ V.cell? ⟨W.heap.size, 0, none⟩ = some (.int .i64 id)) (W.alloc (.cells #[.int .i64 id, .int .i64 prev, .int .i64 next, .bool true] 122)).drew := by
          refine ⟨?_, ?_, ?_⟩
          · exact (World.cell?_alloc_lt W _ ⟨w.heap.size + 1, 0, none⟩ y1).trans w1
          · exact (World.cell?_alloc_lt W _ ⟨w.heap.size + 1 + 1 + 1 + 1 + 1, 0, none⟩ y5).trans w6
          · show (W.alloc _).cell? _ = _
            simp [go_sem]
        have HS0 := Lib.hid hS0
        clear hS0
        refine wpAnyH_take (i := 0) (v := (.pointer (some ⟨sb, 0, none⟩))) rfl (by kernel_rfl) (by kernel_rfl) (by kernel_rfl) (fun _ _ _ h => h) (.inl ⟨rfl, fun V hS => ?y0⟩) HS0.out ?_
        case y0 =>
          obtain ⟨s1, s2, s3⟩ := hS
          go_simp
        go_simp
        refine wpAnyH_take (i := 1) (v := (.int .i64 (x : Int))) rfl (by kernel_rfl) (by kernel_rfl) (by kernel_rfl) (fun _ _ _ h => h) (.inl ⟨rfl, fun V hS => ?y0⟩) HS0.out ?_
        case y0 =>
          obtain ⟨s1, s2, s3⟩ := hS
          go_simp
        go_simp
        refine wpAnyH_take (i := 2) (v := (.map (some (w.heap.size + 1 + 1 + 1 + 1)))) rfl (by kernel_rfl) (by kernel_rfl) (by kernel_rfl) (fun _ _ _ h => h) (.inl ⟨rfl, fun V hS => ?y0⟩) HS0.out ?_
        case y0 =>
          obtain ⟨s1, s2, s3⟩ := hS
          go_simp
        go_simp
        refine wpAnyH_take (i := 3) (v := (.pointer (some ⟨W.heap.size, 0, none⟩))) rfl (by kernel_rfl) (by kernel_rfl) (by kernel_rfl) (fun _ _ _ h => h) (.inl ⟨rfl, fun V hS => ?y0⟩) HS0.out ?_
        case y0 =>
          obtain ⟨s1, s2, s3⟩ := hS
          go_simp
        go_simp
        refine wpAnyH_take (i := 4) (v := (.int .i64 id)) rfl (by kernel_rfl) (by kernel_rfl) (by kernel_rfl) (fun _ _ _ h => h) (.inl ⟨rfl, fun V hS => ?y0⟩) HS0.out ?_
        case y0 =>
          obtain ⟨s1, s2, s3⟩ := hS
          go_simp
        go_simp
        refine wpAnyH_take (i := 5) (v := (.pointer (some ⟨sb, 0, none⟩))) rfl (by kernel_rfl) (by kernel_rfl) (by kernel_rfl) (fun _ _ _ h => h) (.inl ⟨rfl, fun V hS => ?y0⟩) HS0.out ?_
        case y0 =>
          obtain ⟨s1, s2, s3⟩ := hS
          go_simp
        go_simp
        refine wpAnyH_take (i := 6) (v := (.pointer (some ⟨sb, x, none⟩))) rfl (by kernel_rfl) (by kernel_rfl) (by kernel_rfl) (fun _ _ _ h => h) (.inl ⟨rfl, fun V hS => ?y0⟩) HS0.out ?_
        case y0 =>
          obtain ⟨s1, s2, s3⟩ := hS
          go_simp
        go_simp
        refine wpAnyH_ready (rs := [7]) (by kernel_rfl) (by simp) (AllReadyH.cons rfl (fun K hK => ?_) AllReadyH.nil)
        go_simp
        refine hK.out _ _ ?k1 (fun _ => ?_)
        case k1 =>
          have h1 := HS0.out
          refine ⟨?_, ?_, ?_⟩
          · exact (World.cell?_alloc_lt (W.setCell ⟨sb, x, none⟩ (.bool true)) _ ⟨w.heap.size + 1, 0, none⟩ (by simpa [World.setCell] using y1)).trans ((World.cell?_setCell_far _ _ _ _ (by show sb ≠ w.heap.size + 1; omega)).trans w1)
          · exact (World.cell?_alloc_lt (W.setCell ⟨sb, x, none⟩ (.bool true)) _ ⟨w.heap.size + 1 + 1 + 1 + 1 + 1, 0, none⟩ (by simpa [World.setCell] using y5)).trans ((World.cell?_setCell_far _ _ _ _ n5).trans w6)
          · show ((W.setCell _ _).alloc _).cell? _ = _
            simp [go_sem]
        refine wpAnyH_ready (rs := [8]) (by kernel_rfl) (by simp) (AllReadyH.cons rfl (fun K hK => ?_) AllReadyH.nil)
        go_simp
        refine hK.out _ _ HSM.out (fun _ => ?_)
        refine wpAnyH_done (by kernel_rfl) ?_ _
        gi_wp2
        exact HQ.out
      · have hp1 : (prev == ah) = false := beq_eq_false_iff_ne.2 hpa
        have hp2 : (prev != ah) = true := by simp [hpa]
        have Hn := Lib.hid (Hwk.out.trans (usedW_bad hx60 (by rw [Hok.out, hp1]; simp)))
        clear hpa
        gi_wp2_with fail
        refine ⟨trivial, (CallsIn.inRound lp (callsIn_wide.2 (idOk_any id _))).mono ?_⟩
        rintro e w' ⟨rfl, rfl⟩
        rw [Hid1.out]
        gi_wp2
        exact ⟨((KeepsOthers.setCell _ _ _).trans (KeepsOthers.alloc _ _)).from _, rfl, HC.out _, HT.out _, Hn.out⟩
    · have hlk := Hlk.out
      rw [hco] at hlk
      have Hn := Lib.hid (Hwk.out.trans (usedW_bad hx60 (by rw [Hok.out, hco]; simp)))
      clear hco
      gi_wp2_with fail
      refine ⟨trivial, (CallsIn.inRound lp (callsIn_wide.2 (idOk_any id _))).mono ?_⟩
      rintro e w' ⟨rfl, rfl⟩
      rw [Hid1.out]
      gi_wp2
      exact ⟨((KeepsOthers.setCell _ _ _).trans (KeepsOthers.alloc _ _)).from _, rfl, HC.out _, HT.out _, Hn.out⟩
  case done =>
    rintro D xs W hD hS hI hK
    have w0 : W.cell? ⟨w.heap.size, 0, none⟩ = some (.pointer (some ⟨b, 0, none⟩)) := (hI.cell (by omega) (by omega) (by omega) (by omega)).trans q0'
    have w2 : W.cell? ⟨w.heap.size + 1 + 1, 0, none⟩ = some (.bool false) := (hI.cell (by omega) (by omega) (by omega) (by omega)).trans q2'
    have w3 : W.frozen? ⟨w.heap.size + 1 + 1, 0, none⟩ = false := (hI.froz (by omega) (by omega) (by omega) (by omega)).trans q3'
    have w6 : W.cell? ⟨w.heap.size + 1 + 1 + 1 + 1 + 1, 0, none⟩ = some (.map (some (w.heap.size + 1 + 1 + 1 + 1))) := (hI.cell (by omega) (by omega) (by omega) (by omega)).trans q6'
    have w4 : W.cell? ⟨w.heap.size + 1 + 1 + 1, 0, none⟩ = some (.int .i64 (aheadOf xs)) := by rw [cell_of_row _ _ 0 _ _ (0, 0) hI.bef]; rfl
    obtain ⟨n0, n1, n2, n3, _⟩ := (HL2.out.of_block (hI.old b (by omega) Hne.out (by omega) (by omega))).nums
    have hfin : usedW ss 61 f (-1) [] = some (xs, aheadOf xs) := by
      have h1 := hI.walk
      rw [show cur ss f xs = -1 from hS] at h1
      have := hI.few
      rw [show 61 - xs.length = (60 - xs.length) + 1 from by omega] at h1
      exact h1.trans usedW_nil
    have Hfin := Lib.hid hfin
    have HI := Lib.hid hI
    obtain ⟨es, hes, hml⟩ : ∃ es : Array MapEntry, es.size = xs.length ∧ W.heap[w.heap.size + 1 + 1 + 1 + 1]? = some (.map es (idsOf ss xs).length) := ⟨_, by simp [entries_len, idsOf], hI.ids⟩
    have hlen : (Builtin.len_ #[118] 3 #[.map (some (w.heap.size + 1 + 1 + 1 + 1))]).run Try.prog W.drew = .ok (.int .i64 (xs.length : Int)) W.drew := by
      rw [← hes]
      exact run_len_map (w := W.drew) _ _ _ es _ (by kernel_rfl) hml
    clear hes hml hfin hI hS q0 q1 q2 q6 q0' q1' q2' q3' q6' p0 p1 l0
    generalize hah : aheadOf xs = ah at w4 Hfin
    have Hah := Lib.hid hah
    clear hah
    by_cases hal : ah = l
    · subst hal
      go_wp2
      go_still_tail 15, (by kernel_rfl)
      change wpList _ _ _ _ _ W.drew
      have hK2 : (W.setCell ⟨w.heap.size + 1 + 1, 0, none⟩ (.bool ((xs.length : Int) == c))).drew.heap[D]? = some (.deferred (some [])) := (KeepsOthers.setCell W ⟨w.heap.size + 1 + 1, 0, none⟩ (.bool ((xs.length : Int) == c))).same D _ hK rfl
      go_wp2
      refine ⟨by simp, .inl ⟨_, _, rfl, run_takeDeferred hK2, ?_⟩⟩
      have hce : (W.setCell ⟨w.heap.size + 1 + 1, 0, none⟩ (.bool ((xs.length : Int) == c))).drew.cell? ⟨w.heap.size + 1 + 1, 0, none⟩ = some (.bool ((xs.length : Int) == c)) := World.cell?_setCell_same' W ⟨w.heap.size + 1 + 1, 0, none⟩ (.bool ((xs.length : Int) == c)) (by rw [w2]; rfl)
      have hcell := put_cell hK2 hce
      refine ⟨.bool ((xs.length : Int) == c), by simp [results, Try.results134, go_sem, hcell], by unfold usedB; rw [Hfin.out]; simp, tput (tdrew (tset (HI.out.turns hwB (by omega) (by omega)) (by omega) _)) (by omega) _, fun vs a hvs => ?_⟩
      obtain rfl : xs = vs := by rw [Hfin.out] at hvs; injection hvs with h1; injection h1
      exact (HI.out.row.setOther (by show sb ≠ w.heap.size + 1 + 1; omega) _).of_block (World.putObj_heap_other (by omega))
    · go_wp2
      go_still_tail 15, (by kernel_rfl)
      change wpList _ _ _ _ _ W.drew
      have hK2 : (W.setCell ⟨w.heap.size + 1 + 1, 0, none⟩ (.bool false)).drew.heap[D]? = some (.deferred (some [])) := (KeepsOthers.setCell W ⟨w.heap.size + 1 + 1, 0, none⟩ (.bool false)).same D _ hK rfl
      go_wp2
      refine ⟨by simp, .inl ⟨_, _, rfl, run_takeDeferred hK2, ?_⟩⟩
      have hce : (W.setCell ⟨w.heap.size + 1 + 1, 0, none⟩ (.bool false)).drew.cell? ⟨w.heap.size + 1 + 1, 0, none⟩ = some (.bool false) := World.cell?_setCell_same' W ⟨w.heap.size + 1 + 1, 0, none⟩ (.bool false) (by rw [w2]; rfl)
      have hcell := put_cell hK2 hce
      refine ⟨.bool false, by simp [results, Try.results134, go_sem, hcell], by unfold usedB; rw [Hfin.out]; simp [hal], tput (tdrew (tset (HI.out.turns hwB (by omega) (by omega)) (by omega) _)) (by omega) _, fun vs a hvs => ?_⟩
      obtain rfl : xs = vs := by rw [Hfin.out] at hvs; injection hvs with h1; injection h1
      exact (HI.out.row.setOther (by show sb ≠ w.heap.size + 1 + 1; omega) _).of_block (World.putObj_heap_other (by omega))
  case stop =>
    rintro D cc W hD ⟨rfl, hc, ht, hf⟩ hK
    have Hf := Lib.hid hf
    have Ht := Lib.hid ht
    clear hf ht
    refine wpIn_wide.2 ?_
    go_wp2
    refine ⟨by simp, .inl ⟨_, _, rfl, run_takeDeferred hK, ?_⟩⟩
    have hcell := put_cell hK hc
    exact ⟨.bool false, by simp [results, Try.results134, go_sem, hcell], by unfold usedB; rw [Hf.out], tput Ht.out (by omega) _, fun us a hvs => by rw [Hf.out] at hvs; cases hvs⟩
end Go.Proofs.Ytehdbdolhkflcaa.Que

namespace Go.Proofs.Ytehdbdolhkflcaa.Que
open Go.RowKit Go.Deep Base Rng Go.Shelf

theorem seg_bnd {ss : List Sl} : ∀ {l : List Nat} {pr p m : Int}, Seg ss pr p l m (-1) → (∀ x ∈ l, x < 60) → (-1 ≤ p ∧ p < 60) ∧ ∀ x ∈ l, -1 ≤ (sl ss x).next ∧ (sl ss x).next < 60
  | [], pr, p, m, h, _ => by obtain ⟨_, h⟩ := h; exact ⟨by omega, by simp⟩
  | x :: l, pr, p, m, h, hl => by
    obtain ⟨h1, _, _, h4⟩ := h
    have hx := hl x (by simp)
    obtain ⟨i1, i2⟩ := seg_bnd h4 (fun y hy => hl y (by simp [hy]))
    exact ⟨by omega, fun y hy => (List.mem_cons.1 hy).elim (fun e => by rw [e]; exact i1) (i2 y)⟩
theorem fch_bnd {ss : List Sl} : ∀ {l : List Nat} {p : Int}, FCh ss p l → (∀ x ∈ l, x < 60) → (-1 ≤ p ∧ p < 60) ∧ ∀ x ∈ l, -1 ≤ (sl ss x).next ∧ (sl ss x).next < 60
  | [], p, h, _ => by have h : p = -1 := h; exact ⟨by omega, by simp⟩
  | x :: l, p, h, hl => by
    obtain ⟨h1, _, h4⟩ := h
    have hx := hl x (by simp)
    obtain ⟨i1, i2⟩ := fch_bnd h4 (fun y hy => hl y (by simp [hy]))
    exact ⟨by omega, fun y hy => (List.mem_cons.1 hy).elim (fun e => by rw [e]; exact i1) (i2 y)⟩

theorem val_range {ss : List Sl} {f l r c : Int} {us fs : List Nat} (v : Val ss f l r c us fs) : rangeB ss f r = true := by
  obtain ⟨a1, a2⟩ := seg_bnd v.seg (fun x hx => v.lt x (by simp [hx]))
  obtain ⟨b1, b2⟩ := fch_bnd v.fch (fun x hx => v.lt x (by simp [hx]))
  unfold rangeB
  rw [Bool.and_eq_true, Bool.and_eq_true]
  refine ⟨⟨?_, lnkB_true a1.1 a1.2⟩, lnkB_true b1.1 b1.2⟩
  rw [List.all_eq_true]
  intro s hs
  obtain ⟨k, hk, rfl⟩ := List.getElem_of_mem hs
  have hk' : k < 60 := by have := v.len; omega
  have hm := mem_of_full v.nd v.lt v.full hk'
  have he : sl ss k = ss[k] := by simp [sl, hk]
  rw [← he]
  rcases List.mem_append.1 hm with h | h
  · exact lnkB_true (a2 k h).1 (a2 k h).2
  · exact lnkB_true (b2 k h).1 (b2 k h).2

theorem inr_of {ss : List Sl} {f r : Int} (hn : ss.length = 60) (h : rangeB ss f r = true) : InR ss f ∧ InR ss r := by
  unfold rangeB at h
  rw [Bool.and_eq_true, Bool.and_eq_true] at h
  obtain ⟨⟨h1, h2⟩, h3⟩ := h
  have hb : ∀ x, lnkB x = true → -1 ≤ x ∧ x ≤ 59 := fun x hx => by
    unfold lnkB at hx
    rw [Bool.and_eq_true] at hx
    have := of_decide_eq_true hx.1
    have := of_decide_eq_true hx.2
    omega
  have hs : ∀ i, i < 60 → -1 ≤ (sl ss i).next ∧ (sl ss i).next ≤ 59 := fun i hi => by
    rw [List.all_eq_true] at h1
    have hi' : i < ss.length := by omega
    have he : sl ss i = ss[i] := by simp [sl, hi']
    rw [he]
    exact hb _ (h1 _ (List.getElem_mem hi'))
  exact ⟨⟨hb f h2, hs⟩, ⟨hb r h3, hs⟩⟩

theorem okQ_noRange {ss : List Sl} {f l r c : Int} (h : rangeB ss f r = false) : okQ ss f l r c = false := by
  cases ho : okQ ss f l r c
  · rfl
  · obtain ⟨us, fs, v⟩ := ok_val ho
    rw [val_range v] at h; cases h
theorem okQ_noUsed {ss : List Sl} {f l r c : Int} (h : usedB ss f l c = false) : okQ ss f l r c = false := by
  unfold okQ
  unfold usedB at h
  split at h
  · next e => rw [e]; simp
  · next us a e =>
    rw [e]
    simp only
    have h2 : (((us.length : Int) == c) && (l == a)) = false := by
      rw [Bool.and_comm, ← h]
      congr 1
      exact Bool.beq_comm
    rw [h2]; simp
theorem usedB_some {ss : List Sl} {f l c : Int} (h : usedB ss f l c = true) : ∃ us a, usedW ss 61 f (-1) [] = some (us, a) ∧ (us.length : Int) = c ∧ l = a := by
  unfold usedB at h
  split at h
  · cases h
  · next us a e =>
    rw [Bool.and_eq_true] at h
    exact ⟨us, a, e, by simpa using h.2, by have := h.1; simp at this; exact this.symm⟩
theorem okQ_free2 {ss : List Sl} {f l r c : Int} {us : List Nat} {a : Int} (hn : ss.length = 60) (h : usedW ss 61 f (-1) [] = some (us, a)) (h1 : (us.length : Int) = c) (h2 : l = a) : okQ ss f l r c = match freeW ss 61 r us with
    | none => false
    | some vs => vs.length == 60 := by
  unfold okQ
  rw [h]
  cases hq : freeW ss 61 r us <;> simp [hn, h1, h2, hq]
theorem full_eq {vs : List Nat} (hd : vs.Nodup) (hl : ∀ x ∈ vs, x < 60) : allT 60 (fun j => decide (j ∈ vs)) = (vs.length == 60) := by
  have hle := nodup_le 60 vs hd hl
  by_cases h : vs.length = 60
  · rw [h]
    exact allT_true (fun k hk => by simpa using mem_of_full hd hl h hk)
  · have h1 : (vs.length == 60) = false := by simpa using h
    rw [h1]
    cases ha : allT 60 (fun j => decide (j ∈ vs))
    · rfl
    · exfalso
      unfold allT at ha
      rw [List.all_eq_true] at ha
      have hsub : ∀ x ∈ List.range 60, x ∈ vs := fun x hx => by simpa using ha x hx
      have := (List.nodup_range (n := 60)).length_le_of_subset hsub
      simp at this
      omega
theorem used_nd {ss : List Sl} {f a : Int} {us : List Nat} (h : usedW ss 61 f (-1) [] = some (us, a)) : us.Nodup ∧ ∀ x ∈ us, x < 60 := by
  obtain ⟨r, er, s1, s2, s3⟩ := usedW_some h
  rw [List.nil_append] at er
  subst er
  exact ⟨List.Pairwise.of_map _ (fun a b h e => h (by rw [e])) (s3 (by simp)), s2⟩
theorem free_nd {ss : List Sl} {r : Int} {us vs : List Nat} (h : freeW ss 61 r us = some vs) (h1 : us.Nodup) (h2 : ∀ x ∈ us, x < 60) : vs.Nodup ∧ ∀ x ∈ vs, x < 60 := by
  obtain ⟨q, rfl, _, s2, s3⟩ := freeW_some h
  exact ⟨s3 h1, fun x hx => by exact (List.mem_append.1 hx).elim (h2 x) (s2 x)⟩

theorem seen_new (w : World) : (w.alloc (.cells #[.bool false, .bool false, .bool false, .bool false, .bool false, .bool false, .bool false, .bool false, .bool false, .bool false, .bool false, .bool false, .bool false, .bool false, .bool false, .bool false, .bool false, .bool false, .bool false, .bool false, .bool false, .bool false, .bool false, .bool false, .bool false, .bool false, .bool false, .bool false, .bool false, .bool false, .bool false, .bool false, .bool false, .bool false, .bool false, .bool false, .bool false, .bool false, .bool false, .bool false, .bool false, .bool false, .bool false, .bool false, .bool false, .bool false, .bool false, .bool false, .bool false, .bool false, .bool false, .bool false, .bool false, .bool false, .bool false, .bool false, .bool false, .bool false, .bool false, .bool false] 161)).rowIs w.heap.size 161 60 (fun _ => .bool false) := by
  have e : (#[.bool false, .bool false, .bool false, .bool false, .bool false, .bool false, .bool false, .bool false, .bool false, .bool false, .bool false, .bool false, .bool false, .bool false, .bool false, .bool false, .bool false, .bool false, .bool false, .bool false, .bool false, .bool false, .bool false, .bool false, .bool false, .bool false, .bool false, .bool false, .bool false, .bool false, .bool false, .bool false, .bool false, .bool false, .bool false, .bool false, .bool false, .bool false, .bool false, .bool false, .bool false, .bool false, .bool false, .bool false, .bool false, .bool false, .bool false, .bool false, .bool false, .bool false, .bool false, .bool false, .bool false, .bool false, .bool false, .bool false, .bool false, .bool false, .bool false, .bool false] : Array Value) = Array.replicate 60 (.bool false) := by rfl
  rw [e]
  have h := World.rowIs_alloc w (Array.replicate 60 (.bool false)) 161 (fun _ => .bool false) (fun i hi => by simp at hi; simp [hi])
  simpa using h

theorem Turns.below_new {w W W' : World} {sb : Nat} (h : Below w.heap.size w W) (h1 : Turns sb (sb + 1) W W') (hs : w.heap.size ≤ sb) : Below w.heap.size w W' :=
  ⟨h1.os.trans h.os, h1.tape.trans h.tape, h1.output.trans h.output, Nat.le_trans h.size h1.size, fun k hk => (h1.block k (Nat.lt_of_lt_of_le hk h.size) (by omega)).trans (h.block k hk)⟩

set_option maxRecDepth 100000 in
set_option maxHeartbeats 1000000 in
theorem valid_any (b : Nat) (f l r c : Int) (ss : List Sl) (w : World) (hn : ss.length = 60) (h : Lk w b ss f l r c) :
    Calls Try.prog 126 #[.pointer (some ⟨b, 0, none⟩)] w fun e w' => e = .returned (.bool (okQ ss f l r c)) ∧ Below w.heap.size w w' := by
  have Hn := Lib.hid hn
  have HL := Lib.hid h
  have hb := h.lt
  clear h hn
  go_enter Try.func126, Try.ntmps126
  go_wp2_with fail
  obtain ⟨W0, hW0⟩ : ∃ W0, w.alloc (.cells #[.bool false, .bool false, .bool false, .bool false, .bool false, .bool false, .bool false, .bool false, .bool false, .bool false, .bool false, .bool false, .bool false, .bool false, .bool false, .bool false, .bool false, .bool false, .bool false, .bool false, .bool false, .bool false, .bool false, .bool false, .bool false, .bool false, .bool false, .bool false, .bool false, .bool false, .bool false, .bool false, .bool false, .bool false, .bool false, .bool false, .bool false, .bool false, .bool false, .bool false, .bool false, .bool false, .bool false, .bool false, .bool false, .bool false, .bool false, .bool false, .bool false, .bool false, .bool false, .bool false, .bool false, .bool false, .bool false, .bool false, .bool false, .bool false, .bool false, .bool false] 161) = W0 := ⟨_, rfl⟩
  rw [hW0]
  have hs0 := seen_new w
  rw [hW0] at hs0
  have Hs0 := Lib.hid hs0
  have HB0 : Hid (Below w.heap.size w W0) := by rw [← hW0]; exact (Below.refl _ _).alloc (Nat.le_refl _) _
  clear hs0 hW0
  refine (inRange_any b ss f l r c _ Hn.out (HL.out.below HB0.out)).mono ?_
  rintro e w1 ⟨rfl, hb1⟩
  have Hs1 := Lib.hid (Hs0.out.of_block (hb1.block _ Hs0.out.lt))
  have HB1 := Lib.hid (bel_trans HB0.out hb1)
  clear hb1
  cases hr : rangeB ss f r
  · have Ho := Lib.hid (okQ_noRange (l := l) (c := c) hr)
    clear hr
    go_wp2
    go_ret
    exact ⟨by rw [Ho.out]; rfl, HB1.out⟩
  have Hr := Lib.hid (inr_of Hn.out hr)
  clear hr
  go_wp2_with fail
  refine (usedOk_any b w.heap.size f l r c ss w1 (HL.out.below HB1.out) Hr.out.1 Hs1.out (by omega)).mono ?_
  rintro e w2 ⟨rfl, ht2, hrow2⟩
  have HB2 := Lib.hid (Turns.below_new HB1.out ht2 (Nat.le_refl _))
  have Hrow2 := Lib.hid hrow2
  clear hrow2 ht2
  cases hu : usedB ss f l c
  · have Ho := Lib.hid (okQ_noUsed (r := r) hu)
    clear hu
    go_wp2
    go_ret
    exact ⟨by rw [Ho.out]; rfl, HB2.out⟩
  obtain ⟨us, a, hus, hc, hla⟩ := usedB_some hu
  clear hu
  have Hok := Lib.hid (okQ_free2 (r := r) Hn.out hus hc hla)
  have Hnd := Lib.hid (used_nd hus)
  have Hr2 := Lib.hid (Hrow2.out us a hus)
  clear hus hc hla
  go_wp2_with fail
  refine (freeOk_any b w.heap.size f l r c ss us w2 (HL.out.below HB2.out) Hr.out.2 Hr2.out (by omega) Hnd.out.1 Hnd.out.2).mono ?_
  rintro e w3 ⟨rfl, ht3, hrow3⟩
  have HB3 := Lib.hid (Turns.below_new HB2.out ht3 (Nat.le_refl _))
  have Hrow3 := Lib.hid hrow3
  clear hrow3 ht3
  cases hf : freeW ss 61 r us
  · have Ho : Hid (okQ ss f l r c = false) := by have h := Hok.out; rw [hf] at h; exact h
    clear hf
    simp only [Option.isSome_none]
    go_wp2
    go_ret
    exact ⟨by rw [Ho.out]; rfl, HB3.out⟩
  rename_i vs
  have Ho : Hid (okQ ss f l r c = (vs.length == 60)) := by have h := Hok.out; rw [hf] at h; exact h
  have Hvn := Lib.hid (free_nd hf Hnd.out.1 Hnd.out.2)
  have hr3 := Hrow3.out vs hf
  have Hfu := Lib.hid (full_eq Hvn.out.1 Hvn.out.2)
  have HC : Hid (∀ i, i < 60 → w3.cell? ⟨w.heap.size, i, none⟩ = some (.bool (decide (i ∈ vs)))) := fun i hi => hr3.cell hi
  clear hr3 hf
  simp only [Option.isSome_some]
  go_wp2_with fail
  refine (contB_any w.heap.size 60 60 (fun j => decide (j ∈ vs)) w3 (by omega) HC.out).mono ?_
  rintro e w4 ⟨rfl, rfl⟩
  rw [Hfu.out]
  go_wp2
  go_ret
  exact ⟨by rw [Ho.out]; simp, HB3.out⟩
end Go.Proofs.Ytehdbdolhkflcaa.Que

namespace Go.Proofs.Ytehdbdolhkflcaa.Que
open Go.RowKit Go.Deep Base Rng Go.Shelf

theorem lay_list (off : Nat) : ∀ (l : List Value) (k : Nat) (cs : Array Value) (i : Nat),
    ((l.zipIdx k).foldl (fun (cs : Array Value) (p : Value × Nat) => cs.setIfInBounds (off + p.2) p.1) cs)[i]? = if off + k ≤ i ∧ i < off + k + l.length ∧ i < cs.size then l[i - (off + k)]? else cs[i]?
  | [], k, cs, i => by simp; intros; omega
  | v :: l, k, cs, i => by
    rw [List.zipIdx_cons, List.foldl_cons, lay_list off l (k + 1)]
    simp only [Array.size_setIfInBounds, List.length_cons]
    by_cases h1 : off + (k + 1) ≤ i ∧ i < off + (k + 1) + l.length ∧ i < cs.size
    · rw [if_pos h1, if_pos (by omega), show i - (off + k) = (i - (off + (k + 1))) + 1 from by omega, List.getElem?_cons_succ]
    · rw [if_neg h1]
      by_cases h2 : i = off + k
      · subst h2
        by_cases h3 : off + k < cs.size
        · rw [if_pos (by omega)]; simp [h3]
        · rw [if_neg (by omega)]; simp [h3]
      · rw [if_neg (by omega), Array.getElem?_setIfInBounds_ne (by omega)]

theorem built_fill (parts : List (Nat × Value)) : Try.prog.built 127 parts = Instr.fill (fun x => ([(0, 240), (240, 1), (241, 1), (242, 1), (243, 1)] : List (Nat × Nat)).toArray[x]?) Try.zeroCells127 parts := by
  kernel_rfl

theorem cells_at4 (s : Sl) {j : Nat} (h : j < 4) : s.cells[j]? = some (s.at j) := by
  rcases j with _ | _ | _ | _ | j <;> first | rfl | omega

theorem cellsL_lk {ss : List Sl} (hn : ss.length = 60) {i : Nat} (h : i < 240) (f l r c : Int) : (cellsL ss)[i]? = some (lkF ss f l r c i) := by
  have h1 := cellsL_at ss (i / 4) (i % 4) (by omega) (by omega)
  rw [show i / 4 * 4 + i % 4 = i from by omega] at h1
  rw [h1, cells_at4 _ (by omega), lkF, if_pos h]
  rfl

theorem lkA_set242 (ss : List Sl) (f l r c x : Int) : (lkA ss f l r c).setIfInBounds 242 (.int .i64 x) = lkA ss f l x c := by
  apply Array.ext_getElem?
  intro i
  rw [Array.getElem?_setIfInBounds]
  by_cases e : 242 = i
  · subst e; rw [if_pos rfl, if_pos (by rw [lkA_size]; omega), lkA_at _ _ _ _ _ (by omega)]; rfl
  · rw [if_neg e]
    by_cases hi : i < 244
    · rw [lkA_at _ _ _ _ _ hi, lkA_at _ _ _ _ _ hi]
      unfold lkF
      have e' : ¬ i = 242 := fun h => e h.symm
      by_cases h0 : i < 240
      · first | (simp only [h0, if_true]; done) | (simp only [h0, if_true]; rfl)
      by_cases h1 : i = 240
      · first | (simp only [h1]; done) | (simp only [h1]; rfl)
      by_cases h2 : i = 241
      · first | (simp only [h2]; done) | (simp only [h2]; rfl)
      by_cases h3 : i = 242
      · first | exact absurd h3 e' | (simp only [h3]; done) | (simp only [h3]; rfl)
      · first | exact absurd (show i = 243 by omega) e' | (simp only [h0, h1, h2, h3, if_false]; done) | (simp only [h0, h1, h2, h3, if_false]; rfl)
    · rw [lkA_past _ _ _ _ _ hi, lkA_past _ _ _ _ _ hi]
theorem lkA_set243 (ss : List Sl) (f l r c x : Int) : (lkA ss f l r c).setIfInBounds 243 (.int .i64 x) = lkA ss f l r x := by
  apply Array.ext_getElem?
  intro i
  rw [Array.getElem?_setIfInBounds]
  by_cases e : 243 = i
  · subst e; rw [if_pos rfl, if_pos (by rw [lkA_size]; omega), lkA_at _ _ _ _ _ (by omega)]; rfl
  · rw [if_neg e]
    by_cases hi : i < 244
    · rw [lkA_at _ _ _ _ _ hi, lkA_at _ _ _ _ _ hi]
      unfold lkF
      have e' : ¬ i = 243 := fun h => e h.symm
      by_cases h0 : i < 240
      · first | (simp only [h0, if_true]; done) | (simp only [h0, if_true]; rfl)
      by_cases h1 : i = 240
      · first | (simp only [h1]; done) | (simp only [h1]; rfl)
      by_cases h2 : i = 241
      · first | (simp only [h2]; done) | (simp only [h2]; rfl)
      by_cases h3 : i = 242
      · first | exact absurd h3 e' | (simp only [h3]; done) | (simp only [h3]; rfl)
      · first | exact absurd (show i = 243 by omega) e' | (simp only [h0, h1, h2, h3, if_false]; done) | (simp only [h0, h1, h2, h3, if_false]; rfl)
    · rw [lkA_past _ _ _ _ _ hi, lkA_past _ _ _ _ _ hi]

theorem built_links {ss : List Sl} (hn : ss.length = 60) (f l r c : Int) : Try.prog.built 127 [(0, .agg (cellsL ss).toArray), (1, .int .i64 f), (2, .int .i64 l), (3, .int .i64 r), (4, .int .i64 c)] = some (lkA ss f l r c) := by
  have hl : (cellsL ss).length = 240 := by rw [cellsL_len, hn]
  have hz : (Try.zeroCells127).size = 244 := by rw [zero_links, lkA_size]
  rw [built_fill]
  have key : ((cellsL ss).zipIdx.foldl (fun (cs : Array Value) (p : Value × Nat) => cs.setIfInBounds (0 + p.2) p.1) Try.zeroCells127) = lkA ss 0 0 0 0 := by
    apply Array.ext_getElem?
    intro i
    rw [lay_list, hl, hz]
    by_cases h : i < 240
    · rw [if_pos (by omega), lkA_at _ _ _ _ _ (by omega), show i - (0 + 0) = i from by omega]
      exact cellsL_lk hn h 0 0 0 0
    · rw [if_neg (by omega), zero_links]
      by_cases h2 : i < 244
      · rw [lkA_at _ _ _ _ _ h2, lkA_at _ _ _ _ _ h2, lkF, lkF, if_neg h, if_neg h]
      · rw [lkA_past _ _ _ _ _ h2, lkA_past _ _ _ _ _ h2]
  simp only [Nat.zero_add] at key
  simp [Instr.fill, Value.cells, hl, hz, key, lkA_size, lkA_set240, lkA_set241, lkA_set242, lkA_set243]

theorem still_load_mid {P : Program} {op : Oper} {a : Act} {w : World} {K : Act → Prop} (ty : TypeId) (x : Operand) (ho : op.op = .load ty x) (b o : Nat) (hx : a.eval x = .pointer (some ⟨b, o, none⟩)) (cs : List Value) (d : TypeDesc)
    (hc : w.rangeAt b o cs) (hu : P.underlying ty = some d) (hd : d.isRow = true) (hi : (P.info? ty).map (·.size) = some cs.length) (h : K (a.put op.dst (.agg cs.toArray))) : op.still P a w K := by
  unfold Oper.still execOp
  simp only [ho, hx, Instr.loadAt, Instr.sureAddr, Sem.run_bind, Sem.run_pure, Result.andThen_ok, run_loadVar_mid w b o ty cs d hc hu hd hi]
  exact ⟨rfl, h⟩

theorem still_build {P : Program} {op : Oper} {a : Act} {w : World} {K : Act → Prop} (t : TypeId) (parts : Array (Nat × Operand)) (ho : op.op = .build t parts) (cells : Array Value)
    (hf : P.built t (parts.map fun (i, x) => (i, a.eval x)).toList = some cells) (h : K (a.put op.dst (.agg cells))) : op.still P a w K := by
  unfold Oper.still execOp
  simp only [ho, Sem.run_bind, run_build w t _ cells hf, Result.andThen_ok]
  exact ⟨rfl, h⟩

/-- The whole form stored into a block that is one. -/
theorem lk_store {w : World} {b : Nat} {s s' : List Sl} {f l r c f' l' r' c' : Int} (h : Lk w b s f l r c) : Lk (w.setCells b 0 (lkA s' f' l' r' c').toList) b s' f' l' r' c' := by
  refine lk_of_row ((rowIs_setCells _ 0 w _ h.row).congr fun j hj => ?_)
  rw [if_pos (by simp [lkA_size]; omega)]
  have := lkA_at s' f' l' r' c' hj
  simp [this]
end Go.Proofs.Ytehdbdolhkflcaa.Que

namespace Go.Proofs.Ytehdbdolhkflcaa.Que
open Go.RowKit Go.Deep Base Rng Go.Shelf
attribute [local go_sem] Instr.arrayAt

def LinksEnd (w : World) (ss : List Sl) (f l r c : Int) (e : Ending) (w' : World) : Prop :=
  ∃ s' f' l' r' c', e = .returned (.tuple #[.agg (lkA s' f' l' r' c'), .bool (okQ ss f l r c)]) ∧ (ss.length = 60 → s' = ss ∧ f' = f ∧ l' = l ∧ r' = r ∧ c' = c) ∧ Below w.heap.size w w'

theorem Lk.range244 {w : World} {b : Nat} {ss : List Sl} {f l r c : Int} (h : Lk w b ss f l r c) : w.rangeAt b 0 (lkA ss f l r c).toList := fun j v hv => by
  have hj : j < 244 := by
    have := (List.getElem?_eq_some_iff.1 hv).1
    simpa [lkA_size] using this
  have h1 := lkA_at ss f l r c hj
  rw [Array.getElem?_toList, h1] at hv
  cases hv
  rw [Nat.zero_add]
  exact h.row.cell hj

theorem load_links {w : World} {b : Nat} {ss : List Sl} {f l r c : Int} (h : Lk w b ss f l r c) : (loadVar 127 ⟨b, 0, none⟩).run Try.prog w = .ok (.agg (lkA ss f l r c)) w := by
  have h1 := run_loadVar_mid (P := Try.prog) w b 0 127 (lkA ss f l r c).toList _ h.range244 Try.underlying127 rfl (by rw [info_links, Array.length_toList, lkA_size])
  simpa using h1

def zS : List Sl := List.replicate 60 zSl
theorem zero_links' : Try.zeroCells127 = lkA zS 0 0 0 0 := zero_links
theorem Rd.range {w : World} {g : Nat} {ss : List Sl} (h : Rd w g ss) : w.rangeAt g 0 (cellsL ss) := fun j v hv => by
  have := news_rd h j v hv
  rw [Addr.add_mid] at this
  exact this

/-- The box of a queue argument, and its slots. -/
def LBox (B g cap : Nat) (ss : List Sl) (f l r c : Int) (V : World) : Prop :=
  V.cell? ⟨B, 0, none⟩ = some (.slice (some ⟨g, 0, none⟩) 60 cap) ∧ V.cell? ⟨B, 1, none⟩ = some (.int .i64 f) ∧ V.cell? ⟨B, 2, none⟩ = some (.int .i64 l) ∧ V.cell? ⟨B, 3, none⟩ = some (.int .i64 r) ∧ V.cell? ⟨B, 4, none⟩ = some (.int .i64 c) ∧ V.rangeAt g 0 (cellsL ss)
theorem LBox.alloc {B g cap : Nat} {ss : List Sl} {f l r c : Int} {V : World} (h : LBox B g cap ss f l r c V) (o : Obj) : LBox B g cap ss f l r c (V.alloc o) := by
  obtain ⟨h0, h1, h2, h3, h4, h5⟩ := h
  have k : ∀ {p : Addr} {v : Value}, V.cell? p = some v → (V.alloc o).cell? p = some v := fun {p v} hp => (World.cell?_alloc_some V p o (by rw [hp]; rfl)).trans hp
  exact ⟨k h0, k h1, k h2, k h3, k h4, fun j v hv => k (h5 j v hv)⟩

theorem yields_build {P : Program} {ops : Array Oper} {S : World → Prop} {op : Oper} {a : Act} (hw : Region.wanted op (yielded ops a.tmps) = true) (t : TypeId) (parts : Array (Nat × Operand)) (ho : op.op = .build t parts) (cells : Array Value)
    (hf : P.built t (parts.map fun (i, x) => (i, a.eval x)).toList = some cells) : YieldsIf P ops S op (.agg cells) a :=
  .inl ⟨hw, fun w _ => by
    unfold execOp
    simp only [ho, Sem.run_bind, run_build w t _ cells hf, Result.andThen_ok]
    rfl⟩

theorem yields_links {ops : Array Oper} {S : World → Prop} {op : Oper} {a : Act} {b : Nat} {ss : List Sl} {f l r c : Int} (hw : Region.wanted op (yielded ops a.tmps) = true) (x : Operand) (ho : op.op = .load 127 x)
    (hx : a.eval x = .pointer (some ⟨b, 0, none⟩)) (hS : ∀ w, S w → Lk w b ss f l r c) : YieldsIf Try.prog ops S op (.agg (lkA ss f l r c)) a :=
  .inl ⟨hw, fun w h => by
    unfold execOp
    simp only [ho, hx, Instr.loadAt, Instr.sureAddr, Sem.run_bind, Sem.run_pure, Result.andThen_ok, load_links (hS w h)]⟩

theorem Lk.there {w : World} {b : Nat} {ss : List Sl} {f l r c : Int} (h : Lk w b ss f l r c) {n : Nat} (hn : n = 244) : w.there b 0 n := by
  subst hn
  intro j hj
  rw [Nat.zero_add]
  exact ⟨by rw [h.row.cell hj]; rfl, h.row.frozen j⟩

set_option maxRecDepth 100000 in
set_option maxHeartbeats 1000000 in
theorem linksOf_any (A : Option Addr) (n cap : Nat) (ss : List Sl) (f l r c : Int) (lo hi : Nat) (w : World) (hn : ss.length = n) (h : SlV w lo hi A ss) (hhi : hi ≤ w.heap.size) :
    Calls Try.prog 111 #[.agg #[.slice A n cap, .int .i64 f, .int .i64 l, .int .i64 r, .int .i64 c]] w (LinksEnd w ss f l r c) := by
  have Hn := Lib.hid hn
  have HS := Lib.hid h
  clear h hn
  by_cases h60 : n = 60
  · subst h60
    obtain ⟨g, rfl, hlo, hg, hrd⟩ := HS.out (by rw [Hn.out]; omega)
    have hlt : g < w.heap.size := Nat.lt_of_lt_of_le hg hhi
    clear hlo hg
    have Hrd := Lib.hid hrd
    clear hrd HS
    go_enter Try.func111, Try.ntmps111
    go_wp2_with fail
    obtain ⟨W0, hW0⟩ : ∃ W0, (w.alloc (.cells #[.slice (some ⟨g, 0, none⟩) 60 cap, .int .i64 f, .int .i64 l, .int .i64 r, .int .i64 c] 28)).alloc (.cells Try.zeroCells127 127) = W0 := ⟨_, rfl⟩
    rw [hW0]
    have hB0 : Below w.heap.size w W0 := by rw [← hW0]; exact ((Below.refl _ _).alloc (Nat.le_refl _) _).alloc (by simp) _
    have hs0 : W0.heap.size = w.heap.size + 1 + 1 := by rw [← hW0]; simp
    have hL0 : Lk W0 (w.heap.size + 1) zS 0 0 0 0 := by
      rw [← hW0, zero_links']
      have h := heap_alloc_new (w.alloc (.cells #[.slice (some ⟨g, 0, none⟩) 60 cap, .int .i64 f, .int .i64 l, .int .i64 r, .int .i64 c] 28)) (.cells (lkA zS 0 0 0 0) 127)
      simp only [World.size_alloc] at h
      exact h
    have q0 : W0.cell? ⟨w.heap.size, 0, none⟩ = some (.slice (some ⟨g, 0, none⟩) 60 cap) := by rw [← hW0]; simp [go_sem]
    have q1 : W0.cell? ⟨w.heap.size, 1, none⟩ = some (.int .i64 f) := by rw [← hW0]; simp [go_sem]
    have q2 : W0.cell? ⟨w.heap.size, 2, none⟩ = some (.int .i64 l) := by rw [← hW0]; simp [go_sem]
    have q3 : W0.cell? ⟨w.heap.size, 3, none⟩ = some (.int .i64 r) := by rw [← hW0]; simp [go_sem]
    have q4 : W0.cell? ⟨w.heap.size, 4, none⟩ = some (.int .i64 c) := by rw [← hW0]; simp [go_sem]
    have qr : W0.rangeAt g 0 (cellsL ss) := (Hrd.out.of_block (hB0.block g hlt)).range
    have HS0 : Hid (LBox w.heap.size g cap ss f l r c W0.drew) := ⟨q0, q1, q2, q3, q4, qr⟩
    have HL0 := Lib.hid hL0
    have HB0 := Lib.hid hB0
    clear hW0 q0 q1 q2 q3 q4 qr hL0 hB0
    refine wp_region_held_drew (S := LBox w.heap.size g cap ss f l r c) (by kernel_rfl) HS0.out (fun _ => ?_)
    refine wpAnyH_take (i := 0) (v := (.pointer (some ⟨w.heap.size, 0, none⟩))) rfl (by kernel_rfl) (by kernel_rfl) (by kernel_rfl) (fun _ _ _ h => h) (.inl ⟨rfl, fun V hS => ?y0⟩) HS0.out ?_
    case y0 =>
      obtain ⟨s0, s1, s2, s3, s4, s5⟩ := hS
      clear s5
      go_simp
    go_simp
    refine wpAnyH_take (i := 1) (v := (.slice (some ⟨g, 0, none⟩) 60 cap)) rfl (by kernel_rfl) (by kernel_rfl) (by kernel_rfl) (fun _ _ _ h => h) (.inl ⟨rfl, fun V hS => ?y0⟩) HS0.out ?_
    case y0 =>
      obtain ⟨s0, s1, s2, s3, s4, s5⟩ := hS
      clear s5
      go_simp
    go_simp
    refine wpAnyH_take (i := 2) (v := (.pointer (some ⟨g, 0, none⟩))) rfl (by kernel_rfl) (by kernel_rfl) (by kernel_rfl) (fun _ _ _ h => h) (.inl ⟨rfl, fun V hS => ?y0⟩) HS0.out ?_
    case y0 =>
      obtain ⟨s0, s1, s2, s3, s4, s5⟩ := hS
      clear s5
      go_simp
    go_simp
    refine wpAnyH_take (i := 3) (v := .agg (cellsL ss).toArray) rfl (by kernel_rfl) (by kernel_rfl) (by kernel_rfl) (fun _ _ _ h => h) (yieldsIf_load_mid (by rfl) _ _ rfl g 0 rfl (cellsL ss) _ (fun V hS => hS.2.2.2.2.2) Try.underlying125 rfl (by rw [infoSlots, cellsL_len, Hn.out])) HS0.out ?_
    go_simp
    refine wpAnyH_take (i := 4) (v := (.pointer (some ⟨w.heap.size, 1, none⟩))) rfl (by kernel_rfl) (by kernel_rfl) (by kernel_rfl) (fun _ _ _ h => h) (.inl ⟨rfl, fun V hS => ?y0⟩) HS0.out ?_
    case y0 =>
      obtain ⟨s0, s1, s2, s3, s4, s5⟩ := hS
      clear s5
      go_simp
    go_simp
    refine wpAnyH_take (i := 5) (v := (.int .i64 f)) rfl (by kernel_rfl) (by kernel_rfl) (by kernel_rfl) (fun _ _ _ h => h) (.inl ⟨rfl, fun V hS => ?y0⟩) HS0.out ?_
    case y0 =>
      obtain ⟨s0, s1, s2, s3, s4, s5⟩ := hS
      clear s5
      go_simp
    go_simp
    refine wpAnyH_take (i := 6) (v := (.pointer (some ⟨w.heap.size, 2, none⟩))) rfl (by kernel_rfl) (by kernel_rfl) (by kernel_rfl) (fun _ _ _ h => h) (.inl ⟨rfl, fun V hS => ?y0⟩) HS0.out ?_
    case y0 =>
      obtain ⟨s0, s1, s2, s3, s4, s5⟩ := hS
      clear s5
      go_simp
    go_simp
    refine wpAnyH_take (i := 7) (v := (.int .i64 l)) rfl (by kernel_rfl) (by kernel_rfl) (by kernel_rfl) (fun _ _ _ h => h) (.inl ⟨rfl, fun V hS => ?y0⟩) HS0.out ?_
    case y0 =>
      obtain ⟨s0, s1, s2, s3, s4, s5⟩ := hS
      clear s5
      go_simp
    go_simp
    refine wpAnyH_take (i := 8) (v := (.pointer (some ⟨w.heap.size, 3, none⟩))) rfl (by kernel_rfl) (by kernel_rfl) (by kernel_rfl) (fun _ _ _ h => h) (.inl ⟨rfl, fun V hS => ?y0⟩) HS0.out ?_
    case y0 =>
      obtain ⟨s0, s1, s2, s3, s4, s5⟩ := hS
      clear s5
      go_simp
    go_simp
    refine wpAnyH_take (i := 9) (v := (.int .i64 r)) rfl (by kernel_rfl) (by kernel_rfl) (by kernel_rfl) (fun _ _ _ h => h) (.inl ⟨rfl, fun V hS => ?y0⟩) HS0.out ?_
    case y0 =>
      obtain ⟨s0, s1, s2, s3, s4, s5⟩ := hS
      clear s5
      go_simp
    go_simp
    refine wpAnyH_take (i := 10) (v := (.pointer (some ⟨w.heap.size, 4, none⟩))) rfl (by kernel_rfl) (by kernel_rfl) (by kernel_rfl) (fun _ _ _ h => h) (.inl ⟨rfl, fun V hS => ?y0⟩) HS0.out ?_
    case y0 =>
      obtain ⟨s0, s1, s2, s3, s4, s5⟩ := hS
      clear s5
      go_simp
    go_simp
    refine wpAnyH_take (i := 11) (v := (.int .i64 c)) rfl (by kernel_rfl) (by kernel_rfl) (by kernel_rfl) (fun _ _ _ h => h) (.inl ⟨rfl, fun V hS => ?y0⟩) HS0.out ?_
    case y0 =>
      obtain ⟨s0, s1, s2, s3, s4, s5⟩ := hS
      clear s5
      go_simp
    go_simp
    refine wpAnyH_take (i := 12) (v := .agg (lkA ss f l r c)) rfl (by kernel_rfl) (by kernel_rfl) (by kernel_rfl) (fun _ _ _ h => h) (yields_build (by rfl) _ _ rfl _ ?yb) HS0.out ?_
    case yb =>
      have hb := built_links Hn.out f l r c
      go_simp
    go_simp
    have hsc : Sem.run Try.prog (storeCells ⟨w.heap.size + 1 + 1, 0, none⟩ (lkA ss f l r c).toList) (W0.alloc (.cells Try.zeroCells127 127)).drew = .ok () (W0.alloc (.cells (lkA ss f l r c) 127)).drew := by
      rw [← hs0]
      exact store_links W0.drew Try.zeroCells127 (lkA ss f l r c) (by rw [zero_links, lkA_size]) ss f l r c rfl
    refine wpAnyH_ready (rs := [13]) (by kernel_rfl) (by simp) (AllReadyH.cons rfl (fun K hK => ?_) AllReadyH.nil)
    go_simp
    refine hK.out _ _ (HS0.out.alloc _) (fun _ => ?_)
    refine wpAnyH_ready (rs := [14]) (by kernel_rfl) (by simp) (AllReadyH.cons rfl (fun K hK => ?_) AllReadyH.nil)
    have hsz := lkA_size ss f l r c
    go_simp
    refine hK.out _ _ (HS0.out.alloc _) (fun _ => ?_)
    refine wpAnyH_done (by kernel_rfl) ?_ _
    clear hsc HS0 hsz
    go_wp2_with fail
    obtain ⟨W1, hW1⟩ : ∃ W1, (W0.alloc (.cells (lkA ss f l r c) 127)).drew = W1 := ⟨_, rfl⟩
    rw [hW1]
    have HB1 : Hid (Below w.heap.size w W1) := by rw [← hW1]; exact (HB0.out.alloc (by omega) _).drew
    have HL1 : Hid (Lk W1 (w.heap.size + 1) zS 0 0 0 0) := by rw [← hW1]; exact (HL0.out.alloc _).drew
    have HM1 : Hid (Lk W1 (w.heap.size + 1 + 1) ss f l r c) := by rw [← hW1, ← hs0]; exact heap_alloc_new W0 (.cells (lkA ss f l r c) 127)
    clear hW1 hs0 HL0 HB0
    refine wp_region_held_drew (S := fun V => Lk V (w.heap.size + 1 + 1) ss f l r c) (by kernel_rfl) HM1.out (fun _ => ?_)
    refine wpAnyH_take (i := 0) (v := .agg (lkA ss f l r c)) rfl (by kernel_rfl) (by kernel_rfl) (by kernel_rfl) (fun _ _ _ h => h) (yields_links (by rfl) _ rfl rfl (fun V hS => hS)) HM1.out ?_
    go_simp
    refine wpAnyH_ready (rs := [1]) (by kernel_rfl) (by simp) (AllReadyH.cons rfl (fun K hK => ?_) AllReadyH.nil)
    go_simp
    refine (valid_any (w.heap.size + 1 + 1) f l r c ss W1.drew Hn.out HM1.out.drew).mono ?_
    rintro e w2 ⟨rfl, hb2⟩
    have HM2 := Lib.hid (HM1.out.drew.below hb2)
    have HL2 := Lib.hid (HL1.out.drew.below hb2)
    have HB2 : Hid (Below w.heap.size w w2) := bel_trans HB1.out (bel_of_drew hb2)
    clear hb2
    refine hK.out _ _ HM2.out (fun _ => ?_)
    refine wpAnyH_ready (rs := [2]) (by kernel_rfl) (by simp) (AllReadyH.cons rfl (fun K hK => ?_) AllReadyH.nil)
    rw [if_pos (by rfl)]
    refine wp_store_mid _ _ _ rfl (w.heap.size + 1) 0 (lkA ss f l r c) rfl rfl (HL2.out.there (lkA_size _ _ _ _ _)) (by rw [info_links, lkA_size]) (lkA_one _ _ _ _ _) ?_
    have HL3 := Lib.hid (lk_store (s' := ss) (f' := f) (l' := l) (r' := r) (c' := c) HL2.out)
    have HB3 : Hid (Below w.heap.size w (w2.setCells (w.heap.size + 1) 0 (lkA ss f l r c).toList)) := below_setCells (by omega) _ _ _ HB2.out
    have HM3 : Hid (Lk (w2.setCells (w.heap.size + 1) 0 (lkA ss f l r c).toList) (w.heap.size + 1 + 1) ss f l r c) := lk_of_row (rowIs_setCells_other (by omega) _ _ _ HM2.out.row)
    obtain ⟨W3, hW3⟩ : ∃ W3, w2.setCells (w.heap.size + 1) 0 (lkA ss f l r c).toList = W3 := ⟨_, rfl⟩
    rw [hW3] at HL3 HB3 HM3
    refine hK.out _ _ (by rw [hW3]; exact HM3.out) (fun _ => ?_)
    rw [hW3]
    clear hW3
    go_simp
    refine wpAnyH_ready (rs := [3]) (by kernel_rfl) (by simp) (AllReadyH.cons rfl (fun K hK => ?_) AllReadyH.nil)
    go_simp
    refine hK.out _ _ HM3.out (fun _ => ?_)
    refine wpAnyH_done (by kernel_rfl) ?_ _
    go_wp2_with fail
    have hld := load_links HL3.out
    refine bodyPost_ret (v := .tuple #[.agg (lkA ss f l r c), .bool (okQ ss f l r c)]) ?_ rfl ⟨_, _, _, _, _, rfl, fun _ => ⟨rfl, rfl, rfl, rfl, rfl⟩, HB3.out⟩
    simp [results, Try.results111, asAddr, hld]
  · have hne : ((n : Int) != 60) = true := by simp; omega
    have Ho := Lib.hid (okQ_len (ss := ss) (f := f) (l := l) (r := r) (c := c) (by rw [Hn.out]; exact h60))
    have Hno : Hid (ss.length ≠ 60) := by rw [Hn.out]; exact h60
    clear h60
    have hsc : Sem.run Try.prog (storeCells ⟨w.heap.size + 1, 0, none⟩ Try.zeroCells127.toList) ((w.alloc (.cells #[.slice A n cap, .int .i64 f, .int .i64 l, .int .i64 r, .int .i64 c] 28)).alloc (.cells Try.zeroCells127 127))
      = .ok () ((w.alloc (.cells #[.slice A n cap, .int .i64 f, .int .i64 l, .int .i64 r, .int .i64 c] 28)).alloc (.cells (lkA zS 0 0 0 0) 127)) := by
      have h := store_links (w.alloc (.cells #[.slice A n cap, .int .i64 f, .int .i64 l, .int .i64 r, .int .i64 c] 28)) Try.zeroCells127 Try.zeroCells127 (by rw [zero_links, lkA_size]) zS 0 0 0 0 zero_links'
      simpa using h
    go_enter Try.func111, Try.ntmps111
    go_wp2_with fail
    clear hsc
    have hL : Lk ((w.alloc (.cells #[.slice A n cap, .int .i64 f, .int .i64 l, .int .i64 r, .int .i64 c] 28)).alloc (.cells (lkA zS 0 0 0 0) 127)) (w.heap.size + 1) zS 0 0 0 0 := by
      have h := heap_alloc_new (w.alloc (.cells #[.slice A n cap, .int .i64 f, .int .i64 l, .int .i64 r, .int .i64 c] 28)) (.cells (lkA zS 0 0 0 0) 127)
      simp only [World.size_alloc] at h
      exact h
    have hld := load_links hL
    refine bodyPost_ret (v := .tuple #[.agg (lkA zS 0 0 0 0), .bool (okQ ss f l r c)]) ?_ rfl ⟨_, _, _, _, _, rfl, fun h => absurd h Hno.out, ((Below.refl _ _).alloc (Nat.le_refl _) _).alloc (by simp) _⟩
    rw [Ho.out]
    simp [results, Try.results111, asAddr, hld]
end Go.Proofs.Ytehdbdolhkflcaa.Que

namespace Go.Proofs.Ytehdbdolhkflcaa.Que
open Go.RowKit Go.Deep Base Rng Go.Shelf

set_option maxRecDepth 100000 in
set_option maxHeartbeats 1000000 in
theorem queueOk_any (A : Option Addr) (n cap : Nat) (ss : List Sl) (f l r c : Int) (lo hi : Nat) (w : World) (hn : ss.length = n) (h : SlV w lo hi A ss) (hhi : hi ≤ w.heap.size) :
    Calls Try.prog 95 #[.agg #[.slice A n cap, .int .i64 f, .int .i64 l, .int .i64 r, .int .i64 c]] w fun e w' => e = .returned (.bool (okQ ss f l r c)) ∧ Below w.heap.size w w' := by
  have Hn := Lib.hid hn
  have HS := Lib.hid h
  have Hhi := Lib.hid hhi
  clear h hn hhi
  go_enter Try.func95, Try.ntmps95
  go_wp2_with fail
  refine (linksOf_any A n cap ss f l r c lo hi _ Hn.out (HS.out.below (bel_alloc w _) Hhi.out) (by have := Hhi.out; simp; omega)).mono ?_
  rintro e w1 ⟨s', f', l', r', c', rfl, _, hb1⟩
  have HB1 := Lib.hid (bel_trans (bel_alloc w _) hb1)
  clear hb1
  obtain ⟨ok, hok⟩ : ∃ ok, okQ ss f l r c = ok := ⟨_, rfl⟩
  rw [hok]
  have Hok := Lib.hid hok
  clear hok
  have hsc := store_links w1 Try.zeroCells127 (lkA s' f' l' r' c') (by rw [zero_links, lkA_size]) s' f' l' r' c' rfl
  have hsz := lkA_size s' f' l' r' c'
  go_wp2_with fail
  go_ret
  exact ⟨by rw [Hok.out]; rfl, HB1.out.alloc (HB1.out.size) _⟩
end Go.Proofs.Ytehdbdolhkflcaa.Que

namespace Go.Proofs.Ytehdbdolhkflcaa.Que
open Go.RowKit Go.Deep Base

/-- The law's own argument in a box. -/
def LBk (w : World) (g : Nat) (v0 v1 v2 v3 v4 : Value) : Prop := w.heap[g]? = some (.cells #[v0, v1, v2, v3, v4] 48 (0, 0))
theorem LBk.cells {w : World} {g : Nat} {v0 v1 v2 v3 v4 : Value} (h : LBk w g v0 v1 v2 v3 v4) :
    w.cell? ⟨g, 0, none⟩ = some v0 ∧ w.cell? ⟨g, 1, none⟩ = some v1 ∧ w.cell? ⟨g, 2, none⟩ = some v2 ∧ w.cell? ⟨g, 3, none⟩ = some v3 ∧ w.cell? ⟨g, 4, none⟩ = some v4 := by
  have hc : ∀ o, w.cell? ⟨g, o, none⟩ = #[v0, v1, v2, v3, v4][o]? := fun o => cell_of_row _ _ o _ _ (0, 0) h
  refine ⟨?_, ?_, ?_, ?_, ?_⟩ <;> (rw [hc]; rfl)
theorem LBk.lt {w : World} {g : Nat} {v0 v1 v2 v3 v4 : Value} (h : LBk w g v0 v1 v2 v3 v4) : g < w.heap.size := (Array.getElem?_eq_some_iff.1 h).1
theorem LBk.of_block {w w' : World} {g : Nat} {v0 v1 v2 v3 v4 : Value} (h : LBk w g v0 v1 v2 v3 v4) (e : w'.heap[g]? = w.heap[g]?) : LBk w' g v0 v1 v2 v3 v4 := e.trans h
theorem LBk.below {w w' : World} {g : Nat} {v0 v1 v2 v3 v4 : Value} (h : LBk w g v0 v1 v2 v3 v4) (hb : Below w.heap.size w w') : LBk w' g v0 v1 v2 v3 v4 := h.of_block (hb.block g h.lt)
theorem LBk.alloc {w : World} {g : Nat} {v0 v1 v2 v3 v4 : Value} (h : LBk w g v0 v1 v2 v3 v4) (o : Obj) : LBk (w.alloc o) g v0 v1 v2 v3 v4 := h.below (bel_alloc w o)
theorem Blk5.below {w w' : World} {g : Nat} {v0 v1 v2 v3 v4 : Value} (h : Blk5 w g v0 v1 v2 v3 v4) (hb : Below w.heap.size w w') : Blk5 w' g v0 v1 v2 v3 v4 := h.of_block (hb.block g h.lt)

/-- At the laws' last comparison: the box of the kept copy and that of the argument. -/
def Two (x a : Nat) (x0 x1 x2 x3 x4 a0 a1 a2 a3 a4 : Value) (V : World) : Prop := Blk5 V x x0 x1 x2 x3 x4 ∧ LBk V a a0 a1 a2 a3 a4


end Go.Proofs.Ytehdbdolhkflcaa.Que
