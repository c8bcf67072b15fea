/- A range over a function whose rounds the CALLER bounds: what the iterator hands out next is told to the body, and the iterator may lean on what the caller's invariant says (so a list that leads back into itself is borne, where the body ends the loop). -/
import Derived.RangeFuncNested
import Derived.RangeFuncLeaves
import Derived.WalkKit
namespace Go.Proofs.YtcgmeindiaaokaaDoor.Rng
open Go.RowKit

/-- The iterator's contract: R is what it reads between two rounds, Nx what it hands out next, S when it ends by itself. -/
def SeqR (P : Program) (gf : Nat) (lb : Array Value) (encs : Nat → Array Value) (R : List Nat → World → Prop) (Nx : List Nat → Nat → Prop) (S : List Nat → Prop) : Prop :=
  ∀ (l : Nat) (J : List Nat → World → Prop) (Jx : World → Prop) (W : World), (∀ pre W1, J pre W1 → R pre W1) →
    (∀ pre x W1, J pre W1 → Nx pre x → YieldAt Fence.wide 1 P l (encs x) W1 fun e W' => (e = .returned (.bool true) ∧ J (pre ++ [x]) W') ∨ (e = .returned (.bool false) ∧ Jx W')) →
    J [] W → CallsIn Fence.wide 2 P gf (#[.func (.yield l) #[] #[]] ++ lb) W fun e W' => (∃ v, e = .returned v) ∧ ((∃ xs, S xs ∧ J xs W') ∨ Jx W')

/-- How a round may be left. -/
def bodyEnds (B : Nat) (I : List Nat → World → Prop) (Ix : Code → World → Prop) (xs : List Nat) (W : World) : Exit → Act → World → Prop
  | .normal, _, W' => KeepsFrom B W W' ∧ I xs W'
  | .ret, _, W' => KeepsFrom B W W' ∧ Ix .ret W'
  | .exit id, _, W' => KeepsFrom B W W' ∧ Ix (.exit id) W'
  | .goto t, _, W' => KeepsFrom B W W' ∧ Ix (.goto t) W'
  | .panic _, _, _ => False
  | .outgrown, _, _ => False

/-- What the loop's two blocks hold: its record at B + 1, the block for deferred calls at B. -/
def Books (B : Nat) (rec : Loop) (W : World) : Prop := W.heap[B + 1]? = some (.loop rec) ∧ W.heap[B]? = some (.deferred (some []))

theorem Books.turn {B : Nat} {rec : Loop} {W : World} (h : Books B rec W) (rec' : Loop) : Books B rec' (W.putObj (B + 1) (.loop rec')) :=
  ⟨World.putObj_heap_same (Array.getElem?_eq_some_iff.1 h.1).1, (World.putObj_heap_other (by omega)).trans h.2⟩
theorem Books.keeps {B : Nat} {rec : Loop} {W W' : World} (h : Books B rec W) (k : KeepsFrom B W W') : Books B rec W' :=
  ⟨k.same _ _ (by omega) h.1 rfl, k.same _ _ (Nat.le_refl _) h.2 rfl⟩

set_option maxHeartbeats 400000 in
theorem range_wide {P : Program} {g : Operand} {ps : Array Tmp} {assign body : Code} {Q : Exit → Act → World → Prop} {a : Act} {w : World} {gf : Nat} {lb : Array Value}
    (hg : a.eval g = .func (.func gf) #[] lb) (eg : ∀ args w, (callFunc gf args).run P w = .ok (.enter gf args) w)
    {encs : Nat → Array Value} {R : List Nat → World → Prop} {Nx : List Nat → Nat → Prop} {S : List Nat → Prop} (hseq : SeqR P gf lb encs R Nx S) (hps : ∀ x, (encs x).size = ps.size)
    (I : List Nat → World → Prop) (Ix : Code → World → Prop) (hI : OwnFrom w.heap.size I) (hIx : ∀ c, OwnFrom w.heap.size (fun (_ : Unit) W => Ix c W)) (hR : ∀ pre W, I pre W → R pre W) (h0 : I [] w) (a₁ : Nat → Act)
    (hassign : ∀ (l x : Nat) (W : World) (K : Act → World → Prop), K (a₁ x) W →
      assign.wpIn (Fence.wide.inRound l) 1 P (Exit.then K (fun _ _ _ => False)) { tmps := (ps.zip (encs x)).foldl (fun t (p, v) => t.setIfInBounds p v) a.tmps, defers := [] } W)
    (hbody : ∀ (l : Nat) (pre : List Nat) (x : Nat) (W : World), I pre W → Nx pre x → body.wpIn (Fence.wide.inRound l) 1 P (bodyEnds w.heap.size I Ix (pre ++ [x]) W) (a₁ x) W)
    (hdone : ∀ (D : Nat) (xs : List Nat) (W : World), w.heap.size ≤ D → S xs → I xs W → W.heap[D]? = some (.deferred (some [])) → Q .normal { a with defers := { target := .collected D, args := #[] } :: a.defers } W)
    (hstop : ∀ (D : Nat) (c : Code) (W : World), w.heap.size ≤ D → Ix c W → W.heap[D]? = some (.deferred (some [])) → c.wpIn Fence.wide 3 P Q { a with defers := { target := .collected D, args := #[] } :: a.defers } W) :
    (Code.rangeFunc g ps assign body).wpIn Fence.wide 3 P Q a w := by
  refine wpIn_rangeFunc ?_
  intro fn hfn
  obtain ⟨B, hB⟩ : ∃ B, w.heap.size = B := ⟨_, rfl⟩
  obtain ⟨rec, hrec⟩ : ∃ rec : LoopState → Option Code → Loop, rec = fun st pe => { state := st, pending := pe, fn, tmps := a.tmps, params := ps, assign, body, defers := B } := ⟨_, rfl⟩
  obtain ⟨W1, hW1⟩ : ∃ W1, (w.alloc (.deferred (some []))).alloc (.loop (rec .ready none)) = W1 := ⟨_, rfl⟩
  have k1 : Books B (rec .ready none) W1 := by
    rw [← hW1]
    refine ⟨?_, (Below.heap_alloc _ _ _ (by simp [hB])).trans (by rw [← hB]; exact World.alloc_heap_new w _)⟩
    have := World.alloc_heap_new (w.alloc (.deferred (some []))) (.loop (rec .ready none))
    rwa [World.size_alloc, hB] at this
  have i1 : I [] W1 := by rw [← hW1]; exact hI.alloc _ (hI.alloc _ h0)
  rw [hB] at hI hIx hbody hdone hstop
  have turnI : ∀ {s : List Nat} {W : World} {r r' : Loop}, I s W → Books B r W → I s (W.putObj (B + 1) (.loop r')) := fun hi hk => hI.putObj _ hi (by omega) hk.1 rfl
  have turnX : ∀ {c : Code} {W : World} {r r' : Loop}, Ix c W → Books B r W → Ix c (W.putObj (B + 1) (.loop r')) := fun {c} {W} {r} {r'} hi hk => (hIx c).putObj (s := ()) _ hi (by omega) hk.1 rfl
  refine ⟨B + 1, [{ target := .collected B, args := #[] }], W1, { target := .fn (.func gf) lb, args := #[.func (.yield (B + 1)) #[] #[]] }, W1, gf, #[.func (.yield (B + 1)) #[] #[]] ++ lb, W1, ?_, ?_, ?_, ?_, fun _ => by omega, ?_⟩
  · rw [← hW1, hrec, ← hB]; exact run_enterLoop_outer _ _ _ _ _
  · simp only [resolve, hg]
    simp [go_sem]
  · intro f' _; trivial
  · simp [invoke, go_sem, eg]
  refine (hseq (B + 1) (fun pre W => I pre W ∧ Books B (rec .ready none) W) (fun W => ∃ c, Ix c W ∧ Books B (rec .done (some c)) W) W1 (fun pre W h => hR pre W h.1) ?_ ⟨i1, k1⟩).mono ?_
  · rintro pre x W ⟨hi, hk⟩ hnx
    have hy := run_yield (P := P) (args := encs x) hk.1 (by rw [hrec]; exact hps x)
    rw [hrec] at hy
    refine ⟨fn, _, assign, body, hy, roundIn_of_wpIn hfn (hassign _ x W _ ⟨_, run_beginRound hk.1 (by rw [hrec]), ?_⟩)⟩
    have hk2 := hk.turn { rec .ready none with state := .busy }
    refine wpIn_mono (hbody _ pre x _ (turnI hi hk) hnx) ?_
    have ends : ∀ (jump : Option Code) (W3 : World), KeepsFrom B (W.putObj (B + 1) (.loop { rec .ready none with state := .busy })) W3 →
        Books B { rec .ready none with state := .busy } W3 ∧ (Instr.endRound (B + 1) jump).run P W3 = .ok (.bool jump.isNone) (W3.putObj (B + 1) (.loop (rec (if jump.isNone then .ready else .done) jump))) := fun jump W3 k3 => by
      have b3 := hk2.keeps k3
      have := run_endRound (P := P) jump b3.1
      rw [hrec] at this b3 ⊢
      exact ⟨b3, this⟩
    rintro e a3 W3 hp
    cases e with
    | normal =>
      obtain ⟨k3, i3⟩ := hp
      obtain ⟨b3, hr⟩ := ends none W3 k3
      exact ⟨_, _, hr, .inl ⟨rfl, turnI i3 b3, b3.turn _⟩⟩
    | ret =>
      obtain ⟨k3, i3⟩ := hp
      obtain ⟨b3, hr⟩ := ends (some .ret) W3 k3
      exact ⟨_, _, hr, .inr ⟨rfl, .ret, turnX i3 b3, b3.turn _⟩⟩
    | exit id =>
      obtain ⟨k3, i3⟩ := hp
      obtain ⟨b3, hr⟩ := ends (some (.exit id)) W3 k3
      exact ⟨_, _, hr, .inr ⟨rfl, .exit id, turnX i3 b3, b3.turn _⟩⟩
    | goto t =>
      obtain ⟨k3, i3⟩ := hp
      obtain ⟨b3, hr⟩ := ends (some (.goto t)) W3 k3
      exact ⟨_, _, hr, .inr ⟨rfl, .goto t, turnX i3 b3, b3.turn _⟩⟩
    | panic ch => exact hp.elim
    | outgrown => exact hp.elim
  · rintro e W2 ⟨⟨v, rfl⟩, (⟨xs, hS, hi, hk⟩ | ⟨c, hi, hk⟩)⟩
    · exact ⟨none, _, by have := run_endLoop (P := P) hk.1 (by rw [hrec]; simp); rw [hrec] at this; exact this, hdone _ xs _ (Nat.le_refl _) hS (turnI hi hk) ((World.putObj_heap_other (by omega)).trans hk.2)⟩
    · exact ⟨some c, _, by have := run_endLoop (P := P) hk.1 (by rw [hrec]; simp); rw [hrec] at this; exact this, hstop _ c _ (Nat.le_refl _) (turnX hi hk) ((World.putObj_heap_other (by omega)).trans hk.2)⟩
end Go.Proofs.YtcgmeindiaaokaaDoor.Rng
