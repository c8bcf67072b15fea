/- The model's TickText returns the tick's text. -/
import Derived.Test.YtjlebljcglicfaaDoorTick1
import Derived.Test.YtjlebljcglicfaaDoorNum1
import Derived.Deep.RegionWith
namespace Go.Proofs.YtjlebljcglicfaaDoor.Num
open Go.RowKit Base Tick

theorem conv_three (P : Program) (w w1 : World) (src dst t : TypeId) (a b c : Nat) (ha : a < 256) (hb : b < 256) (hc : c < 256) (hs : P.underlying src = some (.slice t)) (he : P.underlying t = some (.int .u8)) (hd : P.underlying dst = some .string)
    (x y z : Int) (hx : x = a) (hy : y = b) (hz : z = c) (hw : Below (w.alloc (.cells #[.int .u8 x, .int .u8 y, .int .u8 z] t)).heap.size (w.alloc (.cells #[.int .u8 x, .int .u8 y, .int .u8 z] t)) w1) :
    (convert src dst (.slice (some ⟨w.heap.size, 0, none⟩) 3 3)).run P w1 = .ok (.string ⟨#[UInt8.ofNat a, UInt8.ofNat b, UInt8.ofNat c]⟩) w1 := by
  refine run_convert_bytes_back (P := P) w1 src dst t ⟨w.heap.size, 0, none⟩ 3 [UInt8.ofNat a, UInt8.ofNat b, UInt8.ofNat c] hs he hd (fun j hj => ?_)
  have ea : (⟨w.heap.size, 0, none⟩ : Addr).add j = ⟨w.heap.size, j, none⟩ := by
    unfold Addr.add; split
    · next h => subst h; rfl
    · simp
  rw [ea, hw.cell (by simp), World.cell?_alloc_mark]
  match j, hj with
  | 0, _ => simp [hx, Nat.mod_eq_of_lt ha]
  | 1, _ => simp [hy, Nat.mod_eq_of_lt hb]
  | 2, _ => simp [hz, Nat.mod_eq_of_lt hc]

set_option maxHeartbeats 800000 in
theorem specTickText_yes (n : Nat) (w : World) (h : (n : Int) ≤ 1000000000) : Calls Tryd.prog 19 #[.int .i64 n] w fun e w' => e = .returned (.string ⟨(tickL n).toArray⟩) ∧ Below w.heap.size w w' := by
  have ht : isT (n : Int) = true := isT_true (by omega) h
  go_enter Tryd.func19, Tryd.ntmps19
  go_wp2_with (go_at_call 8; with_reducible refine (specTickOk_any _ _).mono ?_; rintro e w' ⟨rfl, rfl⟩)
  have hr0 : 0 ≤ (n : Int) % 1000 := by omega
  have hr1 : (n : Int) % 1000 < 1000 := by omega
  generalize hr : (n : Int) % 1000 = r at hr0 hr1 ⊢
  have Hr := Lib.hid hr
  clear hr
  have q1 : IntKind.i64.wrap ((n : Int) / 1000) = (n : Int) / 1000 := IntWalk.i64_in _ (by omega)
  have e1 : IntKind.i64.wrap (r.tdiv 100) = r / 100 := by rw [Int.tdiv_eq_ediv_of_nonneg hr0]; exact IntWalk.i64_in _ (by omega)
  have e2 : IntKind.i64.wrap (48 + r / 100) = 48 + r / 100 := IntWalk.i64_in _ (by omega)
  have e3 : IntKind.u8.wrap (48 + r / 100) = 48 + r / 100 := by rw [IntKind.wrap_u8]; omega
  have e4 : IntKind.i64.wrap (r.tdiv 10) = r / 10 := by rw [Int.tdiv_eq_ediv_of_nonneg hr0]; exact IntWalk.i64_in _ (by omega)
  have e5 : (r / 10).tmod 10 = r / 10 % 10 := Int.tmod_eq_emod_of_nonneg (by omega)
  have e6 : IntKind.i64.wrap (48 + r / 10 % 10) = 48 + r / 10 % 10 := IntWalk.i64_in _ (by omega)
  have e7 : IntKind.u8.wrap (48 + r / 10 % 10) = 48 + r / 10 % 10 := by rw [IntKind.wrap_u8]; omega
  have e8 : r.tmod 10 = r % 10 := Int.tmod_eq_emod_of_nonneg hr0
  have e9 : IntKind.i64.wrap (48 + r % 10) = 48 + r % 10 := IntWalk.i64_in _ (by omega)
  have e10 : IntKind.u8.wrap (48 + r % 10) = 48 + r % 10 := by rw [IntKind.wrap_u8]; omega
  have hcA := fun W : World => conv_three Tryd.prog W _ 22 9 5 (48 + r / 100).toNat (48 + r / 10 % 10).toNat (48 + r % 10).toNat (by omega) (by omega) (by omega) Tryd.underlying22 Tryd.underlying5 Tryd.underlying9 (48 + r / 100) (48 + r / 10 % 10) (48 + r % 10) (by omega) (by omega) (by omega) (Below.refl _ _)
  have hcB := fun W : World => conv_three Tryd.prog W _ 22 9 5 (48 + r / 100).toNat (48 + r / 10 % 10).toNat (48 + r % 10).toNat (by omega) (by omega) (by omega) Tryd.underlying22 Tryd.underlying5 Tryd.underlying9 (48 + r / 100) (48 + r / 10 % 10) (48 + r % 10) (by omega) (by omega) (by omega) (Below.refl _ _).drew
  have hcC := Lib.hid fun (W W1 : World) (h : Below ((W.alloc (.cells #[.int .u8 (48 + r / 100), .int .u8 (48 + r / 10 % 10), .int .u8 (48 + r % 10)] 5)).drew).heap.size (W.alloc (.cells #[.int .u8 (48 + r / 100), .int .u8 (48 + r / 10 % 10), .int .u8 (48 + r % 10)] 5)).drew W1) => conv_three Tryd.prog W W1 22 9 5 (48 + r / 100).toNat (48 + r / 10 % 10).toNat (48 + r % 10).toNat (by omega) (by omega) (by omega) Tryd.underlying22 Tryd.underlying5 Tryd.underlying9 (48 + r / 100) (48 + r / 10 % 10) (48 + r % 10) (by omega) (by omega) (by omega) ⟨h.os, h.tape, h.output, h.size, h.block⟩
  have hF : [UInt8.ofNat (48 + r / 100).toNat, UInt8.ofNat (48 + r / 10 % 10).toNat, UInt8.ofNat (48 + r % 10).toNat] = frac (n % 1000) := by
    have := Hr.out
    have e : r = ((n % 1000 : Nat) : Int) := by omega
    subst e
    unfold frac
    rw [show (48 + ((n % 1000 : Nat) : Int) / 100).toNat = 48 + n % 1000 / 100 by omega, show (48 + ((n % 1000 : Nat) : Int) / 10 % 10).toNat = 48 + n % 1000 / 10 % 10 by omega, show (48 + ((n % 1000 : Nat) : Int) % 10).toNat = 48 + n % 1000 % 10 by omega]
  have HF := Lib.hid hF
  clear hF
  generalize UInt8.ofNat (48 + r / 100).toNat = c1 at hcA hcB hcC HF
  generalize UInt8.ofNat (48 + r / 10 % 10).toNat = c2 at hcA hcB hcC HF
  generalize UInt8.ofNat (48 + r % 10).toNat = c3 at hcA hcB hcC HF
  have Hc := Lib.hid fun W : World => num_any ((n : Int) / 1000) W (by omega) (by omega)
  have hlen := Lib.itoa_length_le ((n : Int) / 1000) (by omega) (by omega)
  have HL : Hid (Lib.itoa ((n : Int) / 1000) = Lib.decDigits (n / 1000)) := by
    have := Lib.itoa_nonneg (n / 1000)
    rw [show ((n / 1000 : Nat) : Int) = (n : Int) / 1000 by omega] at this
    exact this
  generalize Lib.itoa ((n : Int) / 1000) = L at Hc hlen HL
  go_region_with (go_at_call 28; refine (Hc.out _).mono ?_; rintro e w1 ⟨rfl, hb⟩; try have hcD := hcC.out _ _ hb)
  all_goals
    go_wp2
    go_ret
    refine ⟨congrArg (fun x => Ending.returned (.string x)) (cat_tick HL.out HF.out), ?_⟩
    first
      | exact bel_of_drew hb
      | exact (bel_of_drew hb).alloc (bel_of_drew hb).size _
      | exact bel_trans ((bel_alloc _ _).drew) hb

theorem specTickText_no (t : Int) (w : World) (h : isT t = false) : Calls Tryd.prog 19 #[.int .i64 t] w fun e w' => e = .returned (.string ⟨#[]⟩) ∧ w = w' := by
  go_enter Tryd.func19, Tryd.ntmps19
  go_wp2_with (go_at_call 8; with_reducible refine (specTickOk_any _ _).mono ?_; rintro e w' ⟨rfl, rfl⟩)
  go_ret
  exact ⟨rfl, rfl⟩
end Go.Proofs.YtjlebljcglicfaaDoor.Num
