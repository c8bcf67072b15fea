/- Rows of integers beside lines: what marking the one leaves of the other. -/
import Derived.Test.YtpjelojmkmednaaLlw
import Derived.Test.YtpjelojmkmednaaLqD
namespace Go.Proofs.Ytpjelojmkmednaa.Ln
open Go.RowKit Go.Deep Base

theorem iv_tz {w w' : World} {R : Rg} {l h : Nat} {C : Option Addr} {zs : List Int} (k : Que.IV w l h C zs) (t : Tz R w w') (hs : h ≤ w.heap.size) (a1 : h ≤ R.a ∨ R.b ≤ l) (a2 : h ≤ R.c ∨ R.d ≤ l) : Que.IV w' l h C zs :=
  k.of_block fun g h1 h2 => t.block g (by omega) (by omega) (by omega)
theorem ln_turns {w w' : World} {R : Rg} {A B : Option Addr} {x : Lx} {l h lo : Nat} (k : LnV w R A B x) (t : Que.Turns l h w w') (hR : R.In lo w.heap.size) (a1 : h ≤ R.a ∨ R.b ≤ l) (a2 : h ≤ R.c ∨ R.d ≤ l) : LnV w' R A B x := by
  obtain ⟨r1, r2, r3, r4⟩ := hR
  exact ⟨k.apart, k.s.of_block fun g h1 h2 => t.block g (by omega) (by omega), k.h.of_block fun g h1 h2 => t.block g (by omega) (by omega)⟩
theorem bx_turns {w w' : World} {g : Nat} {ty : TypeId} {vs : Array Value} {l h : Nat} (k : Bx w g ty vs) (t : Que.Turns l h w w') (hg : g < l ∨ h ≤ g) : Bx w' g ty vs :=
  k.of_block (t.block g k.lt hg)

/-- A new line and a new row of integers come back, apart from each other. -/
def NewLI (w : World) (x : Lx) (zs : List Int) (e : Ending) (w' : World) : Prop :=
  ∃ R A ca B cb C cc l h, e = .returned (.tuple #[.agg #[.slice A x.s.ss.length ca, .int .i64 x.s.f, .int .i64 x.s.l, .int .i64 x.s.r, .int .i64 x.s.c, .slice B x.ds.length cb, .int .i64 x.q], .slice C zs.length cc]) ∧ LnV w' R A B x ∧ R.In w.heap.size w'.heap.size ∧ Que.IV w' l h C zs ∧ w.heap.size ≤ l ∧ h ≤ w'.heap.size ∧ (h ≤ R.a ∨ R.b ≤ l) ∧ (h ≤ R.c ∨ R.d ≤ l) ∧ Below w.heap.size w w'
end Go.Proofs.Ytpjelojmkmednaa.Ln
