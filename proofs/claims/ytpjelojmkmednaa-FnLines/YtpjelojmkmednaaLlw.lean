/- Small facts that the laws on lines share. -/
import Derived.Test.YtpjelojmkmednaaLla
namespace Go.Proofs.Ytpjelojmkmednaa.Ln
open Go.RowKit Go.Deep Base

theorem Bx.turn {w w' : World} {g : Nat} {ty : TypeId} {vs : Array Value} {R : Rg} {lo hi : Nat} (h : Bx w g ty vs) (t : Tz R w w') (hR : R.In lo hi) (hg : g < lo ∨ hi ≤ g) : Bx w' g ty vs := by
  obtain ⟨r1, r2, r3, r4⟩ := hR
  exact h.of_block (t.block g h.lt (by omega) (by omega))

theorem en_few (x : Lx) (t u : Int) (h : x.ds.length ≤ 1048576) : (enX x t u).ds.length ≤ 1048576 := by
  unfold enX
  split
  · exact Hp.schD_len _ _ _ _ h
  · exact h
end Go.Proofs.Ytpjelojmkmednaa.Ln
