/- Contracts of SoonestOf and SumTicks, of the program and of the model, and the walks of their laws. -/
import Derived.Test.YtbmfleakldhabaaDoorDua
import Derived.Test.YtbmfleakldhabaaDoorInts1
namespace Go.Proofs.YtbmfleakldhabaaDoor.Tick
open Go.RowKit Base

def stepS (b z : Int) : Int := if isT z = true ∧ (b < 0 ∨ z < b) then z else b
def soonT (zs : List Int) : Int := zs.foldl stepS (-1)
def soonF (n : Nat) (zs : List Int) : Int := if 300 < n then -1 else soonT zs
def sumF (n : Nat) (zs : List Int) : Int := if 300 < n ∨ zs.all isT = false then -1 else zs.foldl addT 0

theorem fold_take_succ {α : Type} (f : α → Int → α) (a : α) (zs : List Int) (k : Nat) (h : k < zs.length) : (zs.take (k + 1)).foldl f a = f ((zs.take k).foldl f a) (zs.getD k 0) := by
  rw [List.take_succ_eq_append_getElem h, List.foldl_append]
  simp [List.getD_eq_getElem?_getD, h]

set_option maxHeartbeats 800000 in
theorem implSoonestOf_any (A : Option Addr) (n cap : Nat) (zs : List Int) (w : World) (hn : zs.length = n) (hm : n ≤ 1048576) (h : Ints w A zs) :
    Calls Tryd.prog 43 #[.slice A n cap] w fun e w' => e = .returned (.int .i64 (soonF n zs)) ∧ Below w.heap.size w w' := by
  have Hn := Lib.hid hn
  clear hn
  have HI := Lib.hid h
  clear h
  by_cases hl : 300 < n
  · go_enter Tryd.func43, Tryd.ntmps43
    go_wp2
    go_ret
    exact ⟨ret_int (if_pos hl).symm, Below.refl _ _⟩
  · have HF : Hid (soonF n zs = soonT zs) := if_neg hl
    go_enter Tryd.func43, Tryd.ntmps43
    go_wp2
    go_loopw [3, 11] (fun t i wr => ∃ (k : Nat) (b : Int), k ≤ n ∧ i = .int .i64 k ∧ t = .int .i64 b ∧ soonT (zs.take k) = b ∧ Below w.heap.size w wr) (fun _ i _ => n - (intOf i).toNat)
    case atStart => exact ⟨0, -1, Nat.zero_le _, rfl, rfl, rfl, Below.refl _ _⟩
    case round =>
      obtain ⟨k, b, hk, rfl, rfl, hb, hw⟩ := hrel
      have Hb := Lib.hid hb
      clear hb
      by_cases hlt : k < n
      · obtain ⟨bl, off, rfl, hc⟩ := HI.out.below hw (by have := Hn.out; omega)
        have hck := hc k (by have := Hn.out; omega)
        clear hc
        have Hs : Hid (soonT (zs.take (k + 1)) = stepS b (zs.getD k 0)) := by
          have := fold_take_succ stepS (-1) zs k (by have := Hn.out; omega)
          have e := Hb.out
          unfold soonT at e
          rw [e] at this
          exact this
        generalize zs.getD k 0 = z at hck Hs
        cases ht : isT z
        · go_wp2_with (go_at_call 55; with_reducible refine (implTickOk_any _ _).mono ?_; rintro e w' ⟨rfl, hb⟩)
          go_roundw
          case rel => exact ⟨k + 1, b, by omega, by go_num, rfl, by rw [Hs.out]; unfold stepS; rw [if_neg (by rw [ht]; simp)], hw.trans (hb.mono hw.size)⟩
          case measure => simp [intOf]; omega
        · by_cases h1 : b < 0
          · go_wp2_with (go_at_call 55; with_reducible refine (implTickOk_any _ _).mono ?_; rintro e w' ⟨rfl, hb⟩)
            go_roundw
            case rel => exact ⟨k + 1, z, by omega, by go_num, rfl, by rw [Hs.out]; unfold stepS; rw [if_pos ⟨ht, .inl h1⟩], hw.trans (hb.mono hw.size)⟩
            case measure => simp [intOf]; omega
          · by_cases h2 : z < b
            · go_wp2_with (go_at_call 55; with_reducible refine (implTickOk_any _ _).mono ?_; rintro e w' ⟨rfl, hb⟩)
              go_roundw
              case rel => exact ⟨k + 1, z, by omega, by go_num, rfl, by rw [Hs.out]; unfold stepS; rw [if_pos ⟨ht, .inr h2⟩], hw.trans (hb.mono hw.size)⟩
              case measure => simp [intOf]; omega
            · go_wp2_with (go_at_call 55; with_reducible refine (implTickOk_any _ _).mono ?_; rintro e w' ⟨rfl, hb⟩)
              go_roundw
              case rel => exact ⟨k + 1, b, by omega, by go_num, rfl, by rw [Hs.out]; unfold stepS; rw [if_neg (by omega)], hw.trans (hb.mono hw.size)⟩
              case measure => simp [intOf]; omega
      · go_wp2
        go_ret
        refine ⟨ret_int ?_, hw⟩
        have e : zs.take k = zs := List.take_of_length_le (by have := Hn.out; omega)
        rw [HF.out, ← e, Hb.out]


end Go.Proofs.YtbmfleakldhabaaDoor.Tick
