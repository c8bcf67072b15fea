/- The cursor over the bytes of a draw: what it is in memory, and what drawing a byte and a number below n gives. -/
import Derived.Test.YtcgmeindiaaokaaDoorChecked
import Derived.Test.YtcgmeindiaaokaaDoorBase
import Derived.Laws.BitsAllLaws
import Derived.Laws.Rows
import Derived.RegionTactic
import Derived.Deep.QuietTactic
import Derived.BigQuiet
import Derived.WalkLawsBesides
namespace Go.Proofs.YtcgmeindiaaokaaDoor.Draw
open Go.RowKit Base

theorem mask_bd (a : Int) (m : Nat) (hm : m < 4611686018427387904) : 0 ≤ bits .and .i64 a (m : Int) ∧ bits .and .i64 a (m : Int) ≤ m := by
  show 0 ≤ IntKind.i64.wrap ((BitVec.ofInt 64 a &&& BitVec.ofInt 64 (m : Int)).toNat : Int) ∧ IntKind.i64.wrap ((BitVec.ofInt 64 a &&& BitVec.ofInt 64 (m : Int)).toNat : Int) ≤ m
  have h : (BitVec.ofInt 64 a &&& BitVec.ofInt 64 (m : Int)).toNat ≤ m := by
    rw [BitVec.toNat_and, BitVec.ofInt_natCast, BitVec.toNat_ofNat, Nat.mod_eq_of_lt (by omega)]
    exact Nat.and_le_right
  generalize (BitVec.ofInt 64 a &&& BitVec.ofInt 64 (m : Int)).toNat = x at h
  rw [IntWalk.i64_in _ (by omega)]
  omega

theorem mask255 (a : Int) : 0 ≤ bits .and .i64 a 255 ∧ bits .and .i64 a 255 ≤ 255 := mask_bd a 255 (by decide)
theorem maskBig (a : Int) : 0 ≤ bits .and .i64 a 1073741823 ∧ bits .and .i64 a 1073741823 ≤ 1073741823 := mask_bd a 1073741823 (by decide)

/-- The bytes zs lie at A, in a block below B. -/
def Bytes (w : World) (B : Nat) (A : Option Addr) (zs : List Int) : Prop :=
  (∀ i, i < zs.length → 0 ≤ zs.getD i 0 ∧ zs.getD i 0 ≤ 255) ∧ (0 < zs.length → ∃ b off, A = some ⟨b, off, none⟩ ∧ b < B ∧ ∀ i, i < zs.length → w.cell? ⟨b, off + i, none⟩ = some (.int .u8 (zs.getD i 0)))

theorem Bytes.keep {w w' : World} {B : Nat} {A : Option Addr} {zs : List Int} (h : Bytes w B A zs) (hk : ∀ b o, b < B → w'.cell? ⟨b, o, none⟩ = w.cell? ⟨b, o, none⟩) : Bytes w' B A zs :=
  ⟨h.1, fun hp => by
    obtain ⟨b, off, rfl, hb, hc⟩ := h.2 hp
    exact ⟨b, off, rfl, hb, fun i hi => (hk b _ hb).trans (hc i hi)⟩⟩

/-- The cursor in block g, over the n bytes zs at A. -/
structure CurAt (w : World) (g : Nat) (A : Option Addr) (n cap : Nat) (zs : List Int) (i h : Int) : Prop where
  blk : w.heap[g]? = some (.cells #[.slice A n cap, .int .i64 i, .int .i64 h] 79 (0, 0))
  bytes : Bytes w g A zs
  len : zs.length = n
  small : n ≤ 1048576
  pos : 0 ≤ i
  le : i ≤ n
def Cur (w : World) (g : Nat) (A : Option Addr) (n cap : Nat) (zs : List Int) : Prop := ∃ i h, CurAt w g A n cap zs i h

def Drawn (g : Nat) (A : Option Addr) (n cap : Nat) (zs : List Int) (w : World) (P : Int → Prop) (e : Ending) (w' : World) : Prop :=
  ∃ x, e = .returned (.int .i64 x) ∧ P x ∧ Cur w' g A n cap zs ∧ w.grownBy w' (some g)

theorem cell3 {w : World} {g : Nat} {x y z : Value} {t : TypeId} (h : w.heap[g]? = some (.cells #[x, y, z] t (0, 0))) :
    w.cell? ⟨g, 0, none⟩ = some x ∧ w.cell? ⟨g, 1, none⟩ = some y ∧ w.cell? ⟨g, 2, none⟩ = some z ∧ w.frozen? ⟨g, 1, none⟩ = false ∧ w.frozen? ⟨g, 2, none⟩ = false := by
  refine ⟨?_, ?_, ?_, ?_, ?_⟩
  · rw [cell_of_row _ _ _ _ _ _ h]; rfl
  · rw [cell_of_row _ _ _ _ _ _ h]; rfl
  · rw [cell_of_row _ _ _ _ _ _ h]; rfl
  · simp [World.frozen?, h]
  · simp [World.frozen?, h]

theorem grown_set (w : World) (g o : Nat) (v : Value) : w.grownBy (w.setCell ⟨g, o, none⟩ v) (some g) :=
  ⟨rfl, rfl, rfl, by simp [World.setCell], fun i _ hne => Below.heap_setCell w _ v i (fun e => hne (by rw [e]))⟩

theorem heap_set {w : World} {g : Nat} {cs : Array Value} {t : TypeId} (h : w.heap[g]? = some (.cells cs t (0, 0))) (o : Nat) (v : Value) : (w.setCell ⟨g, o, none⟩ v).heap[g]? = some (.cells (cs.setIfInBounds o v) t (0, 0)) := by
  simp [World.setCell, Array.getElem?_modify, h]

theorem CurAt.setH {w : World} {g : Nat} {A : Option Addr} {n cap : Nat} {zs : List Int} {i h : Int} (C : CurAt w g A n cap zs i h) (h' : Int) : CurAt (w.setCell ⟨g, 2, none⟩ (.int .i64 h')) g A n cap zs i h' :=
  ⟨heap_set C.blk 2 _, C.bytes.keep fun b o hb => World.cell?_setCell_other w _ _ _ (fun e => by injection e with e _ _; omega), C.len, C.small, C.pos, C.le⟩

theorem CurAt.setI {w : World} {g : Nat} {A : Option Addr} {n cap : Nat} {zs : List Int} {i h : Int} (C : CurAt w g A n cap zs i h) (i' : Int) (h0 : 0 ≤ i') (h1 : i' ≤ n) : CurAt (w.setCell ⟨g, 1, none⟩ (.int .i64 i')) g A n cap zs i' h :=
  ⟨heap_set C.blk 1 _, C.bytes.keep fun b o hb => World.cell?_setCell_other w _ _ _ (fun e => by injection e with e _ _; omega), C.len, C.small, h0, h1⟩

theorem CurAt.drewN {w : World} {g : Nat} {A : Option Addr} {n cap : Nat} {zs : List Int} {i h : Int} (C : CurAt w g A n cap zs i h) (k : Nat) : CurAt (w.drewN k) g A n cap zs i h :=
  ⟨C.blk, C.bytes, C.len, C.small, C.pos, C.le⟩

theorem grown_then {a b c : World} {row : Option Nat} (h : a.grownBy b row) (k : b.grownBy c row) : a.grownBy c row :=
  ⟨k.os.trans h.os, k.tape.trans h.tape, k.output.trans h.output, Nat.le_trans h.size k.size, fun i hi hne => (k.block i (Nat.lt_of_lt_of_le hi h.size) hne).trans (h.block i hi hne)⟩

theorem grown_drewN {a w : World} {row : Option Nat} (h : a.grownBy w row) (k : Nat) : a.grownBy (w.drewN k) row := ⟨h.os, h.tape, h.output, h.size, h.block⟩

set_option maxHeartbeats 800000 in
theorem byte_any (g : Nat) (A : Option Addr) (n cap : Nat) (zs : List Int) (w : World) (hc : Cur w g A n cap zs) :
    Calls Tryd.prog 57 #[.pointer (some ⟨g, 0, none⟩)] w (Drawn g A n cap zs w fun x => 0 ≤ x ∧ x ≤ 255) := by
  obtain ⟨i, h, C⟩ := hc
  obtain ⟨k, hk⟩ := Int.eq_ofNat_of_zero_le C.pos
  subst hk
  obtain ⟨c0, c1, c2, f1, f2⟩ := cell3 C.blk
  have HC := Lib.hid C
  clear C
  have hsm := HC.out.small
  have hle := HC.out.le
  go_enter Tryd.func57, Tryd.ntmps57
  go_wp2
  generalize wrap64 (wrap64 (h * 6364136223846793005) + 1442695040888963407) = h'
  have C1 := HC.out.setH h'
  have HG := Lib.hid (grown_set w g 2 (.int .i64 h'))
  clear HC c0 c1 c2 f1 f2
  generalize w.setCell ⟨g, 2, none⟩ (.int .i64 h') = W at C1 HG ⊢
  obtain ⟨c0, c1, c2, f1, f2⟩ := cell3 C1.blk
  have HC := Lib.hid C1
  clear C1
  go_quiet (fail)
  go_wp2
  have hx := mask255 (bits .xor .i64 (h' / 8589934592) (h' / 35184372088832))
  generalize bits .and .i64 (bits .xor .i64 (h' / 8589934592) (h' / 35184372088832)) 255 = x at hx ⊢
  obtain ⟨x0, x1⟩ := hx
  by_cases hlt : k < n
  · obtain ⟨b, off, rfl, hb, hcb⟩ := HC.out.bytes.2 (by have := HC.out.len; omega)
    have hz := HC.out.bytes.1 k (by have := HC.out.len; omega)
    have cz := hcb k (by have := HC.out.len; omega)
    clear hcb
    generalize zs.getD k 0 = z at hz cz
    obtain ⟨z0, z1⟩ := hz
    have hd : decide ((k : Int) < (n : Int)) = true := by simp; omega
    have q1 : IntKind.i64.wrap (x + z) = x + z := IntWalk.i64_in _ (by omega)
    have q2 : IntKind.i64.wrap z = z := IntWalk.i64_in _ (by omega)
    go_quiet (fail)
    go_wp2
    go_quiet (fail)
    go_wp2
    have hx := mask255 (x + z)
    generalize bits .and .i64 (x + z) 255 = y at hx ⊢
    go_ret
    exact ⟨y, rfl, hx, ⟨_, _, (HC.out.drewN _).setI (k + 1) (by omega) (by omega)⟩, grown_then (grown_drewN HG.out _) (grown_set _ g 1 _)⟩
  · have hd : decide ((k : Int) < (n : Int)) = false := by simp; omega
    go_quiet (fail)
    go_wp2
    go_ret
    exact ⟨x, rfl, ⟨x0, x1⟩, ⟨_, _, (HC.out.drewN _).drewN _⟩, grown_drewN (grown_drewN HG.out _) _⟩

set_option maxHeartbeats 800000 in
theorem below_any (g : Nat) (A : Option Addr) (n cap : Nat) (zs : List Int) (m : Int) (w : World) (hc : Cur w g A n cap zs) :
    Calls Tryd.prog 41 #[.pointer (some ⟨g, 0, none⟩), .int .i64 m] w (Drawn g A n cap zs w fun x => (m ≤ 0 → x = 0) ∧ (0 < m → 0 ≤ x ∧ x < m)) := by
  have HC := Lib.hid hc
  clear hc
  by_cases h0 : m ≤ 0
  · go_enter Tryd.func41, Tryd.ntmps41
    go_wp2
    go_ret
    exact ⟨0, rfl, ⟨fun _ => rfl, fun h => by omega⟩, HC.out, World.grownBy.refl _ _⟩
  · have hmz : (m == 0) = false := by simp; omega
    by_cases h1 : m ≤ 256
    · go_enter Tryd.func41, Tryd.ntmps41
      go_wp2_with fail
      refine (byte_any g A n cap zs w HC.out).mono ?_
      rintro e w1 ⟨x, rfl, ⟨x0, x1⟩, hc1, hg1⟩
      have H1 := Lib.hid hc1
      clear hc1
      go_wp2
      go_ret
      exact ⟨_, rfl, ⟨fun h => by omega, fun h => ⟨Int.emod_nonneg _ (by omega), Int.emod_lt_of_pos _ h⟩⟩, H1.out, hg1⟩
    · go_enter Tryd.func41, Tryd.ntmps41
      go_wp2_with fail
      refine (byte_any g A n cap zs w HC.out).mono ?_
      rintro e w1 ⟨x, rfl, ⟨x0, x1⟩, hc1, hg1⟩
      have H1 := Lib.hid hc1
      clear hc1
      go_wp2_with fail
      refine (byte_any g A n cap zs w1 H1.out).mono ?_
      rintro e w2 ⟨y, rfl, ⟨y0, y1⟩, hc2, hg2⟩
      have H2 := Lib.hid hc2
      clear hc2
      go_wp2_with fail
      refine (byte_any g A n cap zs w2 H2.out).mono ?_
      rintro e w3 ⟨z, rfl, ⟨z0, z1⟩, hc3, hg3⟩
      have H3 := Lib.hid hc3
      clear hc3
      go_wp2
      go_ret
      exact ⟨_, rfl, ⟨fun h => by omega, fun h => ⟨Int.emod_nonneg _ (by omega), Int.emod_lt_of_pos _ h⟩⟩, H3.out, grown_then (grown_then hg1 hg2) hg3⟩

def DrawnB (g : Nat) (A : Option Addr) (n cap : Nat) (zs : List Int) (w : World) (e : Ending) (w' : World) : Prop :=
  ∃ b, e = .returned (.bool b) ∧ Cur w' g A n cap zs ∧ w.grownBy w' (some g)

theorem once_any (g : Nat) (A : Option Addr) (n cap : Nat) (zs : List Int) (m : Int) (w : World) (hc : Cur w g A n cap zs) :
    Calls Tryd.prog 43 #[.pointer (some ⟨g, 0, none⟩), .int .i64 m] w (DrawnB g A n cap zs w) := by
  have HC := Lib.hid hc
  clear hc
  go_enter Tryd.func43, Tryd.ntmps43
  go_wp2_with fail
  refine (below_any g A n cap zs m w HC.out).mono ?_
  rintro e w1 ⟨x, rfl, _, hc1, hg1⟩
  have H1 := Lib.hid hc1
  clear hc1
  go_wp2
  go_ret
  exact ⟨_, rfl, H1.out, hg1⟩

/-- A row of integers of the call's own, in a block other than the cursor's. -/
theorem pick_any (g : Nat) (A : Option Addr) (n cap : Nat) (zs : List Int) (b : Nat) (m c : Nat) (xs : List Int) (w : World) (hc : Cur w g A n cap zs) (hb : b ≠ g) (hm : xs.length = m) (hp : 0 < m) (hs : m ≤ 1048576)
    (hx : ∀ i, i < m → w.cell? ⟨b, i, none⟩ = some (.int .i64 (xs.getD i 0))) :
    Calls Tryd.prog 58 #[.pointer (some ⟨g, 0, none⟩), .slice (some ⟨b, 0, none⟩) m c] w (Drawn g A n cap zs w fun x => x ∈ xs) := by
  have HC := Lib.hid hc
  have HX := Lib.hid hx
  have HM := Lib.hid hm
  clear hc hx hm
  go_enter Tryd.func58, Tryd.ntmps58
  go_wp2_with fail
  refine (below_any g A n cap zs m w HC.out).mono ?_
  rintro e w1 ⟨x, rfl, hx, hc1, hg1⟩
  have H1 := Lib.hid hc1
  clear hc1
  obtain ⟨x0, x1⟩ := hx.2 (by omega)
  clear hx
  obtain ⟨k, rfl⟩ := Int.eq_ofNat_of_zero_le x0
  have hk : k < m := by omega
  have ck : w1.cell? ⟨b, k, none⟩ = some (.int .i64 (xs.getD k 0)) := by
    have h := HX.out k hk
    rw [World.cell?_of_block (w := w) (hg1.block b (World.block_lt_of_cell? _ _ h) (fun e => hb (by injection e)))]
    exact h
  have HE : Hid (xs.getD k 0 ∈ xs) := by
    have := HM.out
    rw [List.getD_eq_getElem?_getD, List.getElem?_eq_getElem (by omega)]
    exact List.getElem_mem _
  generalize xs.getD k 0 = y at ck HE
  go_wp2
  go_ret
  exact ⟨y, rfl, HE.out, H1.out, hg1⟩
end Go.Proofs.YtcgmeindiaaokaaDoor.Draw
