/- The program's TakeNumber. -/
import Derived.Test.YtcgmeindiaaokaaDoorBdR
namespace Go.Proofs.YtcgmeindiaaokaaDoor.By
open Go.RowKit Go.Deep Base Rw

theorem ansN_some {b : List Int} {at_ x m : Int} (h : takeN b at_ = some (x, m)) : ansN b at_ = (x, m) := by unfold ansN; rw [h]; rfl

set_option maxRecDepth 100000 in
set_option maxHeartbeats 1000000 in
theorem implTakeN_any (A : Option Addr) (n cap : Nat) (zs : List Int) (at_ : Int) (p : Addr) (w : World) (hn : zs.length = n) (hm : n ≤ 1048576) (hcap : n ≤ cap) (hcm : cap ≤ 9223372036854775807) (hb : isB zs) (h : BI w A zs) (hp : ErN p w) (ha0 : -9223372036854775808 ≤ at_) (ha1 : at_ ≤ 9223372036854775807) :
    Calls Tryd.prog 21 #[.slice A n cap, .int .i64 at_] w fun e w' => e = .returned (.tuple #[.int .i64 (ansN zs at_).1, .int .i64 (ansN zs at_).2]) ∧ Below w.heap.size w w' := by
  have HG := Lib.hid (implNumber_any A n cap zs at_ p w hn hm hcap hcm hb h hp ha0 ha1)
  clear hn hb h hp
  go_enter Tryd.func21, Tryd.ntmps21
  go_wp2_with fail
  refine HG.out.mono ?_
  rintro e w1 ⟨b1, (⟨x, m, hx, rfl⟩ | ⟨hx, rfl⟩)⟩
  · have He := Lib.hid (ansN_some hx)
    have B1 := Lib.hid b1
    clear b1 hx
    go_wp2
    refine bodyPost_ret (v := .tuple #[.int .i64 x, .int .i64 m]) (by simp [results, Tryd.results21]) rfl ?_
    exact ⟨by rw [He.out], B1.out⟩
  · have He := Lib.hid (ansN_none hx)
    have B1 := Lib.hid b1
    clear b1 hx
    go_wp2
    refine bodyPost_ret (v := .tuple #[.int .i64 0, .int .i64 (-1)]) (by simp [results, Tryd.results21]) rfl ?_
    exact ⟨by rw [He.out], B1.out⟩
end Go.Proofs.YtcgmeindiaaokaaDoor.By
