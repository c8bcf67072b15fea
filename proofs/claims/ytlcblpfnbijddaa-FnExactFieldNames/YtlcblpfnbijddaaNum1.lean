/- The model's number text: l01Num returns the decimal numeral of every int. -/
import Derived.Test.YtlcblpfnbijddaaChecked
import Derived.Test.YtlcblpfnbijddaaBase
import Derived.Test.YtlcblpfnbijddaaNumMath
import Derived.WalkLawsBesides
import Derived.Laws.IdiomStrings
namespace Go.Proofs.Ytlcblpfnbijddaa.Num
open Go.RowKit Base

theorem conv_new (P : Program) (w : World) (src dst t : TypeId) (cap : Nat) (l : List UInt8) (hs : P.underlying src = some (.slice t)) (he : P.underlying t = some (.int .u8)) (hd : P.underlying dst = some .string) :
    (convert src dst (.slice (some ⟨w.heap.size, 0, none⟩) l.length cap)).run P (w.alloc (.cells (l.map fun c => Value.int .u8 (c.toNat : Int)).toArray t)) =
      .ok (.string ⟨l.toArray⟩) (w.alloc (.cells (l.map fun c => Value.int .u8 (c.toNat : Int)).toArray t)) := by
  refine run_convert_bytes_back _ src dst t _ cap l hs he hd (fun j hj => ?_)
  have ea : (⟨w.heap.size, 0, none⟩ : Addr).add j = ⟨w.heap.size, j, none⟩ := by
    unfold Addr.add; split
    · next h => subst h; rfl
    · simp
  rw [ea, World.cell?_alloc_mark]
  simp [hj]

theorem conv_one (P : Program) (w : World) (src dst t : TypeId) (n : Nat) (hn : n < 256) (hs : P.underlying src = some (.slice t)) (he : P.underlying t = some (.int .u8)) (hd : P.underlying dst = some .string) (x : Int) (hx : x = n) :
    (convert src dst (.slice (some ⟨w.heap.size, 0, none⟩) 1 1)).run P (w.alloc (.cells #[.int .u8 x] t)) = .ok (.string ⟨#[UInt8.ofNat n]⟩) (w.alloc (.cells #[.int .u8 x] t)) := by
  have h := conv_new P w src dst t 1 [UInt8.ofNat n] hs he hd
  have e : ((UInt8.ofNat n).toNat : Int) = x := by rw [hx, UInt8.toNat_ofNat_of_lt' (by simpa using hn)]
  simp only [List.map_cons, List.map_nil, e] at h
  exact h

theorem size_le (N m : Nat) (l : List UInt8) (h1 : (N : Int) ≤ 9223372036854775808) (h : dd m ++ l = Lib.decDigits N) : l.length ≤ 21 := by
  have e := congrArg List.length h
  rw [List.length_append] at e
  have := Lib.itoa_length_le (-(N : Int)) (by omega) (by omega)
  by_cases hN : N = 0
  · subst hN
    rw [Lib.decDigits_one (by omega)] at e
    simp at e
    omega
  · rw [Lib.itoa_neg N (by omega)] at this
    simp at this
    omega


end Go.Proofs.Ytlcblpfnbijddaa.Num
