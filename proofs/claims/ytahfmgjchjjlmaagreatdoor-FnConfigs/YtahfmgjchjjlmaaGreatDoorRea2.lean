/- The model's l01Read: the number, of at most ten digits, that a word writes. -/
import Derived.Test.YtahfmgjchjjlmaaGreatDoorHtk
import Derived.Test.YtahfmgjchjjlmaaGreatDoorNum1
import Derived.Lib.Strings
namespace Go.Proofs.YtahfmgjchjjlmaaGreatDoor.Num
open Go.RowKit Base Tick

def unsign (l : List UInt8) : List UInt8 := if l.head? = some 45 then l.tail else l
def signed (l : List UInt8) (m : Nat) : Int := if l.head? = some 45 then -(m : Int) else (m : Int)
def readT (l : List UInt8) : Int × Bool :=
  if 1 ≤ (unsign l).length ∧ (unsign l).length ≤ 10 then
    match Lib.decFrom 0 (unsign l) with
    | none => (0, false)
    | some m => (signed l m, Lib.itoa (signed l m) == l)
  else (0, false)

theorem readT_len {l : List UInt8} (h : ¬ (1 ≤ (unsign l).length ∧ (unsign l).length ≤ 10)) : readT l = (0, false) := if_neg h
theorem readT_none {l : List UInt8} (h : Lib.decFrom 0 (unsign l) = none) : readT l = (0, false) := by
  unfold readT; split
  · rw [h]
  · rfl
theorem readT_some {l : List UInt8} {m : Nat} (h1 : 1 ≤ (unsign l).length) (h2 : (unsign l).length ≤ 10) (h : Lib.decFrom 0 (unsign l) = some m) : readT l = (signed l m, Lib.itoa (signed l m) == l) := by
  unfold readT; rw [if_pos ⟨h1, h2⟩, h]

theorem decFrom_lt10 {l : List UInt8} {m : Nat} (h : Lib.decFrom 0 l = some m) (hl : l.length ≤ 10) : m < 10000000000 := by
  have h1 := Lib.decFrom_lt l 0 m h
  have h2 : 10 ^ l.length ≤ 10 ^ 10 := Nat.pow_le_pow_right (by omega) hl
  have h3 : (10 : Nat) ^ 10 = 10000000000 := by decide
  omega

theorem decFrom_bad {l : List UInt8} {k : Nat} (h : k < l.length) (hd : l[k].toNat < 48 ∨ 57 < l[k].toNat) : Lib.decFrom 0 l = none := by
  cases e : Lib.decFrom 0 l with
  | none => rfl
  | some n =>
    obtain ⟨d, hd'⟩ := Lib.digit_of_decFrom l 0 n e k l[k] (List.getElem?_eq_getElem h)
    have := Lib.digitVal_eq hd'
    omega

theorem decFrom_next {l : List UInt8} {k m : Nat} (h : k < l.length) (hm : Lib.decFrom 0 (l.take k) = some m) (h0 : 48 ≤ l[k].toNat) (h1 : l[k].toNat ≤ 57) : Lib.decFrom 0 (l.take (k + 1)) = some (m * 10 + (l[k].toNat - 48)) :=
  Lib.decFrom_take l k 0 m l[k] _ hm (List.getElem?_eq_getElem h) (by simp [Lib.digitVal, h0, h1])

theorem unsign_neg {s : ByteArray} (h : 0 < s.size) (e : s[0] = 45) : unsign s.data.toList = (s.extract 1 s.size).data.toList ∧ s.data.toList.head? = some 45 := by
  have hl : s.data.toList.length = s.size := by rw [Array.length_toList]; rfl
  have hh : s.data.toList.head? = some 45 := by
    rw [List.head?_eq_getElem?, List.getElem?_eq_getElem (by omega)]
    exact congrArg some e
  refine ⟨?_, hh⟩
  unfold unsign
  rw [if_pos hh, Lib.extract_data, List.drop_one, List.take_of_length_le]
  rw [List.length_tail]; omega

theorem unsign_pos {s : ByteArray} (h : s.size = 0 ∨ ∃ h : 0 < s.size, s[0] ≠ 45) : unsign s.data.toList = s.data.toList ∧ s.data.toList.head? ≠ some 45 := by
  have hl : s.data.toList.length = s.size := by rw [Array.length_toList]; rfl
  have hh : s.data.toList.head? ≠ some 45 := by
    rw [List.head?_eq_getElem?]
    rcases h with h | ⟨h, e⟩
    · rw [List.getElem?_eq_none (by omega)]; simp
    · rw [List.getElem?_eq_getElem (by omega)]
      intro h2
      exact e (Option.some.inj h2)
  exact ⟨if_neg hh, hh⟩

theorem val_eq {k : IntKind} {a b : Int} (h : a = b) : Value.int k a = Value.int k b := by rw [h]

def ReadOk (w : World) (l : List UInt8) (e : Ending) (w' : World) : Prop := e = .returned (.tuple #[.int .i64 (readT l).1, .bool (readT l).2]) ∧ Below w.heap.size w w'

theorem readOk_of {w w' : World} {l : List UInt8} {x : Int} {b : Bool} (h : readT l = (x, b)) (hb : Below w.heap.size w w') : ReadOk w l (.returned (.tuple #[.int .i64 x, .bool b])) w' := by
  unfold ReadOk; rw [h]; exact ⟨rfl, hb⟩


end Go.Proofs.YtahfmgjchjjlmaaGreatDoor.Num
