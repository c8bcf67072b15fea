/- The law on lines: its state between two rounds. -/
import Derived.Test.YtpjelojmkmednaaLf1
import Derived.Test.YtpjelojmkmednaaLap
import Derived.Test.YtpjelojmkmednaaLlx
namespace Go.Proofs.Ytpjelojmkmednaa.Ln
open Go.RowKit Go.Deep Base

/-- Between two rounds: the line in the box at g, the two plain lists beside it. -/
structure Ls (w wr : World) (g : Nat) (x : Lx) (R : Rg) (A : Option Addr) (ca : Nat) (B : Option Addr) (cb : Nat) (m b1 o1 c1 : Nat) (L : List Int) (b2 o2 c2 : Nat) (U : List Int) : Prop where
  box : Bx wr g 31 #[.slice A x.s.ss.length ca, .int .i64 x.s.f, .int .i64 x.s.l, .int .i64 x.s.r, .int .i64 x.s.c, .slice B x.ds.length cb, .int .i64 x.q]
  row : LnV wr R A B x
  rg : R.In w.heap.size wr.heap.size
  l1 : Li wr w.heap.size b1 o1 m c1 L
  l2 : Li wr w.heap.size b2 o2 m c2 U
  n12 : b1 ≠ b2
  n1 : b1 ≠ g
  n2 : b2 ≠ g
  low : w.heap.size ≤ g
  old : Below w.heap.size w wr
  f1 : (b1 < R.a ∨ R.b ≤ b1) ∧ (b1 < R.c ∨ R.d ≤ b1)
  f2 : (b2 < R.a ∨ R.b ≤ b2) ∧ (b2 < R.c ∨ R.d ≤ b2)

/-- Old memory stands. -/
theorem Ls.keep {w wr w' : World} {g : Nat} {x : Lx} {R : Rg} {A : Option Addr} {ca : Nat} {B : Option Addr} {cb m b1 o1 c1 : Nat} {L : List Int} {b2 o2 c2 : Nat} {U : List Int} (h : Ls w wr g x R A ca B cb m b1 o1 c1 L b2 o2 c2 U) (hb : Below wr.heap.size wr w') :
    Ls w w' g x R A ca B cb m b1 o1 c1 L b2 o2 c2 U :=
  ⟨h.box.below hb, h.row.below hb h.rg, h.rg.wide (Nat.le_refl _) hb.size, h.l1.below hb h.l1.lt, h.l2.below hb h.l2.lt, h.n12, h.n1, h.n2, h.low, bel_trans h.old hb, h.f1, h.f2⟩

/-- A line in rows that only block b's change leaves, b being none of them. -/
theorem ln_turn1 {w w' : World} {R : Rg} {A B : Option Addr} {x : Lx} {b lo : Nat} (k : LnV w R A B x) (t : Que.Turns b (b + 1) w w') (hR : R.In lo w.heap.size) (f : (b < R.a ∨ R.b ≤ b) ∧ (b < R.c ∨ R.d ≤ b)) : LnV w' R A B x :=
  ln_turns k t hR (by omega) (by omega)
theorem li_turn1 {w w' : World} {lo c o n cap b : Nat} {L : List Int} (k : Li w lo c o n cap L) (t : Que.Turns b (b + 1) w w') (h : c ≠ b) : Li w' lo c o n cap L :=
  k.of_block (t.block c k.lt (by omega)) (Nat.lt_of_lt_of_le k.lt t.size)
theorem bx_turn1 {w w' : World} {g b : Nat} {ty : TypeId} {vs : Array Value} (k : Bx w g ty vs) (t : Que.Turns b (b + 1) w w') (h : g ≠ b) : Bx w' g ty vs := bx_turns k t (by omega)

/-- The first of a slice is cut off; at the end of its room its address stays. -/
theorem li_tail {w : World} {lo b off n c : Nat} {a : Int} {t : List Int} (h : Li w lo b off (n + 1) (c + 1) (a :: t)) : Li w lo b (if c = 0 then off else off + 1) n c t := by
  have h1 := h.le
  have h2 := h.len
  by_cases e : c = 0
  · rw [if_pos e]
    subst e
    have hn : n = 0 := by omega
    subst hn
    exact ⟨by simpa using h2, Nat.le_refl _, h.low, h.lt, fun i hi => absurd hi (by omega), fun i hi => absurd hi (by omega)⟩
  · rw [if_neg e]
    have := h.tail
    simpa using this

/-- The line is put anew into its box. -/
theorem Ls.put {w v : World} {g : Nat} {y : Lx} {Q : Rg} {m b1 o1 c1 : Nat} {L : List Int} {b2 o2 c2 : Nat} {U : List Int} {A2 : Option Addr} {ca2 : Nat} {B2 : Option Addr} {cb2 lo : Nat} {v0 v1 v2 v3 v4 v5 v6 : Value}
    (hb : Bx v g 31 #[v0, v1, v2, v3, v4, v5, v6]) (hrow : LnV v Q A2 B2 y) (hrg : Q.In lo v.heap.size) (hlo : w.heap.size ≤ lo) (hg : g < lo) (h1 : Li v w.heap.size b1 o1 m c1 L) (h2 : Li v w.heap.size b2 o2 m c2 U) (n12 : b1 ≠ b2) (n1 : b1 ≠ g) (n2 : b2 ≠ g) (low : w.heap.size ≤ g) (old : Below w.heap.size w v)
    (f1 : (b1 < Q.a ∨ Q.b ≤ b1) ∧ (b1 < Q.c ∨ Q.d ≤ b1)) (f2 : (b2 < Q.a ∨ Q.b ≤ b2) ∧ (b2 < Q.c ∨ Q.d ≤ b2)) :
    Ls w (sets g 0 [.slice A2 y.s.ss.length ca2, .int .i64 y.s.f, .int .i64 y.s.l, .int .i64 y.s.r, .int .i64 y.s.c, .slice B2 y.ds.length cb2, .int .i64 y.q] v) g y Q A2 ca2 B2 cb2 m b1 o1 c1 L b2 o2 c2 U := by
  have hz := sets_size g [.slice A2 y.s.ss.length ca2, .int .i64 y.s.f, .int .i64 y.s.l, .int .i64 y.s.r, .int .i64 y.s.c, .slice B2 y.ds.length cb2, .int .i64 y.q] 0 v
  have ho : ∀ b, b ≠ g → (sets g 0 [.slice A2 y.s.ss.length ca2, .int .i64 y.s.f, .int .i64 y.s.l, .int .i64 y.s.r, .int .i64 y.s.c, .slice B2 y.ds.length cb2, .int .i64 y.q] v).heap[b]? = v.heap[b]? := fun b hb => sets_other g hb _ _ _
  exact ⟨hb.put7 _ _ _ _ _ _ _, hrow.sto hrg (.inl hg), hrg.wide hlo (by rw [hz]; exact Nat.le_refl _), h1.of_block (ho _ n1) (by rw [hz]; exact h1.lt), h2.of_block (ho _ n2) (by rw [hz]; exact h2.lt), n12, n1, n2, low, sets_below g _ low _ _ _ old, f1, f2⟩
end Go.Proofs.Ytpjelojmkmednaa.Ln
