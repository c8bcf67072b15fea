/- The contracts of follow and of the iterator that it makes. -/
import Derived.Test.YtjbfmagedkmngaaQue9
import Derived.Test.YtjbfmagedkmngaaRng1
import Derived.Shelf.Abstract
import Derived.OwnWalkIn
import Derived.TacticsInMore
import Derived.LoopNIn
import Derived.LoopIn
import Derived.Sort.LoopGhostIn
namespace Go.Proofs.Ytjbfmagedkmngaa.Que
open Go.RowKit Go.Deep Base Rng
attribute [local go_sem] Oper.semAt_some

/-- Where the walk from start on stands when the places pre have come. -/
def cur (ss : List Sl) (start : Int) (pre : List Nat) : Int := match pre.getLast? with
  | none => start
  | some x => (sl ss x).next

theorem cur_nil (ss : List Sl) (start : Int) : cur ss start [] = start := rfl
theorem cur_snoc (ss : List Sl) (start : Int) (pre : List Nat) (x : Nat) : cur ss start (pre ++ [x]) = (sl ss x).next := by simp [cur]

/-- All links are in range. -/
def InR (ss : List Sl) (start : Int) : Prop := (-1 ≤ start ∧ start ≤ 59) ∧ ∀ i, i < 60 → -1 ≤ (sl ss i).next ∧ (sl ss i).next ≤ 59

theorem cur_range {ss : List Sl} {start : Int} {pre : List Nat} (h : InR ss start) (hl : ∀ x ∈ pre, x < 60) : cur ss start pre = -1 ∨ ∃ k : Nat, cur ss start pre = (k : Int) ∧ k < 60 := by
  have h1 : -1 ≤ cur ss start pre ∧ cur ss start pre ≤ 59 := by
    rcases List.eq_nil_or_concat pre with rfl | ⟨r, x, rfl⟩
    · exact h.1
    · rw [List.concat_eq_append, cur_snoc]
      exact h.2 x (hl x (by simp))
  by_cases e : cur ss start pre = -1
  · exact .inl e
  · exact .inr ⟨(cur ss start pre).toNat, by omega, by omega⟩

def fEnc (x : Nat) : Array Value := #[.int .i64 (x : Int)]

/-- What the iterator reads between two rounds: its two boxes and the links; and the rounds are few. -/
structure FR (bs bl b : Nat) (ss : List Sl) (f l r c start : Int) (pre : List Nat) (W : World) : Prop where
  sb : W.cell? ⟨bs, 0, none⟩ = some (.int .i64 start)
  lb : W.cell? ⟨bl, 0, none⟩ = some (.pointer (some ⟨b, 0, none⟩))
  lk : Lk W b ss f l r c
  lt : ∀ x ∈ pre, x < 60
  few : pre.length ≤ 60

def FNx (ss : List Sl) (start : Int) (pre : List Nat) (x : Nat) : Prop := cur ss start pre = (x : Int) ∧ x < 60
def FS (ss : List Sl) (start : Int) (xs : List Nat) : Prop := cur ss start xs = -1

theorem follow_any (b : Nat) (start : Int) (w : World) :
    Calls Try.prog 52 #[.pointer (some ⟨b, 0, none⟩), .int .i64 start] w fun e w' => e = .returned (.func (.func 62) #[] #[.pointer (some ⟨w.heap.size + 1, 0, none⟩), .pointer (some ⟨w.heap.size, 0, none⟩)])
      ∧ (w.alloc (.cells #[.pointer (some ⟨b, 0, none⟩)] 69)).alloc (.cells #[.int .i64 start] 3) = w' := by
  have hmf : ∀ (fn : Fn) (first cap : Array Value) (w : World), (Instr.makeFunc fn first cap).run Try.prog w = .ok (.func fn first cap) w := fun _ _ _ _ => rfl
  go_enter Try.func52, Try.ntmps52
  go_wp2
  go_ret
  exact ⟨rfl, rfl⟩

set_option maxRecDepth 100000 in
set_option maxHeartbeats 1000000 in
theorem follow1_seq (bs bl b : Nat) (ss : List Sl) (f l r c start : Int) (hin : InR ss start) :
    SeqR Try.prog 62 #[.pointer (some ⟨bs, 0, none⟩), .pointer (some ⟨bl, 0, none⟩)] fEnc (FR bs bl b ss f l r c start) (FNx ss start) (FS ss start) := by
  intro lp J Jx W hJ hY h0
  have HJ := Lib.hid hJ
  have HY := Lib.hid hY
  have Hin := Lib.hid hin
  clear hJ hY hin
  have hsb := (HJ.out _ _ h0).sb
  have H0 := Lib.hid h0
  clear h0
  refine callsIn_of_wp Try.func62 rfl trivial ?_ rfl
  simp only [Try.ntmps62, List.size_toArray, List.length_cons, List.length_nil, Nat.reduceAdd, Nat.reduceSub, Array.replicate_succ, Array.replicate_zero, List.push_toArray, List.append_toArray, List.nil_append, List.cons_append]
  gi_wp2
  gi_loopg [4] 61 (fun k p wr => ∃ pre, 61 ≤ k + pre.length ∧ p = .int .i64 (cur ss start pre) ∧ J pre wr)
  case atStart => exact ⟨[], by simp, rfl, H0.out⟩
  case round =>
    obtain ⟨pre, hk, rfl, hj⟩ := hrel
    have hR := HJ.out _ _ hj
    rcases cur_range Hin.out hR.lt with hc | ⟨k, hc, hk60⟩
    · have Hc := Lib.hid hc
      rw [hc]
      clear hc
      gi_wp2
      refine ⟨fun _ h => (by cases h), ?_⟩
      gi_wp2
      go_end0
      exact ⟨⟨_, rfl⟩, .inl ⟨pre, Hc.out, hj⟩⟩
    · have Hc := Lib.hid hc
      rw [hc]
      clear hc
      obtain ⟨fn, tmps, assign, body, hy, hRd⟩ := HY.out pre k wr hj ⟨Hc.out, hk60⟩
      have hk1 : ((k : Int) != -1) = true := by rw [bne_iff_ne]; omega
      have hk2 : ((k : Int) == -1) = false := beq_eq_false_iff_ne.2 (by omega)
      have Hj := Lib.hid hj
      have Hk := Lib.hid hk
      clear hj hk hR
      dsimp only [fEnc] at hy
      gi_wp2
      refine hRd.mono ?_
      rintro e W2 (⟨rfl, hj2⟩ | ⟨rfl, hx⟩)
      · have hR2 := HJ.out _ _ hj2
        have hlb := hR2.lb
        obtain ⟨_, _, c2, _⟩ := hR2.lk.slot hk60
        have Hf := Lib.hid hR2.few
        have Hcs := Lib.hid (cur_snoc ss start pre k)
        rw [← Hcs.out] at c2
        have Hj2 := Lib.hid hj2
        clear hj2 hR2 hy hRd
        gi_wp2
        gi_roundg (gk - 1)
        case measure =>
          have := Hk.out
          have := Hf.out
          rw [List.length_append, List.length_singleton] at this
          omega
        case rel =>
          refine ⟨pre ++ [k], ?_, rfl, Hj2.out⟩
          have := Hk.out
          rw [List.length_append, List.length_singleton]
          omega
      · gi_wp2
        go_end0
        exact ⟨⟨_, rfl⟩, .inr hx⟩
end Go.Proofs.Ytjbfmagedkmngaa.Que
