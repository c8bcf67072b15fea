/- An item removed from the program's tree; the copy of a heap that a refused call hands back. What DueOf answers: the reference's and the program's. The program's CancelDue. -/
import Derived.Test.YtpjelojmkmednaaLh6
import Derived.Test.YtpjelojmkmednaaLh4
namespace Go.Proofs.Ytpjelojmkmednaa.Hp
open Go.RowKit Go.Deep Base

/-- The last item in the place of item k, and the list one shorter. -/
def cutD (ds : List Du) (k : Nat) : List Du := (swapD ds k (ds.length - 1)).take (ds.length - 1)
/-- Item k removed. -/
def remD (ds : List Du) (k : Nat) : List Du := if k < ds.length - 1 then downD (ds.length - 1) (upD k (cutD ds k) k) k else cutD ds k
theorem cutD_len (ds : List Du) (k : Nat) : (cutD ds k).length = ds.length - 1 := by unfold cutD; rw [List.length_take, swapD_len]; omega
theorem remD_len (ds : List Du) (k : Nat) : (remD ds k).length = ds.length - 1 := by
  unfold remD
  split
  · rw [downD_len, upD_len, cutD_len]
  · exact cutD_len ds k

theorem getD_take {ds : List Du} {m i : Nat} (h : i < m) : (ds.take m).getD i zDu = ds.getD i zDu := by simp [List.getD_eq_getElem?_getD, h]
theorem Rd.take {w : World} {g : Nat} {ds : List Du} (h : Rd w g ds) (m : Nat) : Rd w g (ds.take m) := by
  intro i hi
  rw [List.length_take] at hi
  rw [getD_take (by omega)]
  exact h i (by omega)

theorem Tr.store {w : World} {b : Nat} {A : Option Addr} {n cap : Nat} (h : Tr w b A n cap) (A' : Option Addr) (n' cap' : Nat) : Tr (w.setCell ⟨b, 0, none⟩ (.slice A' n' cap')) b A' n' cap' := by
  have := heap_setCell_same w b 0 _ _ (.slice A' n' cap') h
  exact this

set_option maxRecDepth 100000 in
set_option maxHeartbeats 1000000 in
theorem remove_any (b g m cap k lo hi : Nat) (ds : List Du) (w : World) (hn : ds.length = m + 1) (hm : m + 1 ≤ 1048576) (hk : k < m + 1) (hc : m + 1 ≤ cap) (ht : Tr w b (some ⟨g, 0, none⟩) (m + 1) cap) (h : Rd w g ds) (hg : g < w.heap.size) (hbg : b ≠ g) (hlg : lo ≤ g) (hhg : g < hi) (hlb : lo ≤ b) (hhb : b < hi) :
    Calls Try.prog 89 #[.pointer (some ⟨b, 0, none⟩), .int .i64 (k : Int)] w fun e w' => e = .returned (.tuple #[]) ∧ Tr w' b (some ⟨g, 0, none⟩) m cap ∧ Rd w' g (remD ds k) ∧ Tn lo hi w w' := by
  have Hn := Lib.hid hn
  have HI := Lib.hid h
  have HT := Lib.hid ht
  obtain ⟨t0, t1, _⟩ := ht.cells
  have hbl := ht.lt
  clear hn h ht
  have hk0 : (0 : Int) ≤ (k : Int) := by omega
  have hm0 : (0 : Int) ≤ (m : Int) := by omega
  have hmc : (m : Int) ≤ (cap : Int) := by omega
  have hgb : g ≠ b := fun e => hbg e.symm
  go_enter Try.func89, Try.ntmps89
  go_wp2_with fail
  refine (exchange_any b g (m + 1) cap k m ds w Hn.out hk (by omega) HT.out HI.out hbg).mono ?_
  rintro e w1 ⟨rfl, rd1, tn1⟩
  have R1 := Lib.hid rd1
  have T1 := Lib.hid (HT.out.tn tn1 hbg)
  have N1 := Lib.hid (tn1.wide hlg (show g + 1 ≤ hi by omega))
  have hg1 : g < w1.heap.size := Nat.lt_of_lt_of_le hg tn1.size
  clear rd1 tn1 t0 t1 hbl
  obtain ⟨t0, t1, tf⟩ := T1.out.cells
  have hbl := T1.out.lt
  have HW2 : Hid (Tr (w1.setCell ⟨b, 0, none⟩ (.slice (some ⟨g, 0, none⟩) m cap)) b (some ⟨g, 0, none⟩) m cap) := T1.out.store _ _ _
  have HR2 : Hid (Rd (w1.setCell ⟨b, 0, none⟩ (.slice (some ⟨g, 0, none⟩) m cap)) g (cutD ds k)) := by
    have e : cutD ds k = (swapD ds k m).take m := by unfold cutD; rw [Hn.out]; rfl
    rw [e]
    exact (R1.out.take m).of_block (heap_setCell_other w1 _ _ _ (by show g ≠ b; omega))
  have HN2 : Hid (Tn lo hi w (w1.setCell ⟨b, 0, none⟩ (.slice (some ⟨g, 0, none⟩) m cap))) := N1.out.setCell hlb hhb _
  have hcl : Hid ((cutD ds k).length = m) := by show (cutD ds k).length = m; rw [cutD_len, Hn.out]; rfl
  by_cases hkm : k < m
  · have Hrem : Hid (remD ds k = downD m (upD k (cutD ds k) k) k) := by show remD ds k = _; unfold remD; rw [Hn.out, if_pos (by omega)]; rfl
    go_wp2_with fail
    obtain ⟨W2, hW2⟩ : ∃ W2, w1.setCell ⟨b, 0, none⟩ (.slice (some ⟨g, 0, none⟩) m cap) = W2 := ⟨_, rfl⟩
    rw [hW2] at HW2 HR2 HN2 ⊢
    have hg2 : g < W2.heap.size := Nat.lt_of_lt_of_le hg HN2.out.size
    clear hW2
    refine (moveUp_any b g m cap k (cutD ds k) W2 hcl.out (by omega) hkm HW2.out HR2.out hg2 hbg).mono ?_
    rintro e w3 ⟨rfl, rd3, tn3⟩
    have R3 := Lib.hid rd3
    have T3 := Lib.hid (HW2.out.tn tn3 hbg)
    have N3 := Lib.hid (HN2.out.trans (tn3.wide hlg (show g + 1 ≤ hi by omega)))
    have hg3 : g < w3.heap.size := Nat.lt_of_lt_of_le hg2 tn3.size
    clear rd3 tn3
    go_wp2_with fail
    refine (moveDown_any b g m cap k (upD k (cutD ds k) k) w3 (by rw [upD_len]; exact hcl.out) (by omega) hkm T3.out R3.out hg3 hbg).mono ?_
    rintro e w4 ⟨rfl, rd4, tn4⟩
    have R4 := Lib.hid rd4
    have T4 := Lib.hid (T3.out.tn tn4 hbg)
    have N4 := Lib.hid (N3.out.trans (tn4.wide hlg (show g + 1 ≤ hi by omega)))
    clear rd4 tn4
    go_wp2
    go_end0
    exact ⟨rfl, T4.out, by rw [Hrem.out]; exact R4.out, N4.out⟩
  · have Hrem : Hid (remD ds k = cutD ds k) := by show remD ds k = _; unfold remD; rw [Hn.out, if_neg (by omega)]
    go_wp2
    go_end0
    exact ⟨rfl, HW2.out, by rw [Hrem.out]; exact HR2.out, HN2.out⟩

set_option maxRecDepth 100000 in
set_option maxHeartbeats 1000000 in
theorem sameHeap_any (A : Option Addr) (n cap lo hi : Nat) (ds : List Du) (q : Int) (w : World) (hn : ds.length = n) (hm : n ≤ 1048576) (h : DV w lo hi A ds) (hs : hi ≤ w.heap.size) :
    Calls Try.prog 87 #[.agg #[.slice A n cap, .int .i64 q]] w (NewH w n ds q) := by
  have Hn := Lib.hid hn
  have HI := Lib.hid h
  clear hn h
  go_enter Try.func87, Try.ntmps87
  go_wp2_with fail
  have hB0 : Below w.heap.size w ((w.alloc (.cells #[.slice A n cap, .int .i64 q] 29)).alloc (.cells #[.slice none 0 0, .int .i64 0] 29)) := ((Below.refl _ _).alloc (Nat.le_refl _) _).alloc (by simp) _
  refine (clone_dv A n cap lo hi ds _ Hn.out hm (HI.out.below hB0 hs) (by simp; omega)).mono ?_
  rintro e w1 ⟨A1, c1, rfl, v1, b1⟩
  have X1 : Hid (Blk2 w1 w.heap.size (.slice A n cap) (.int .i64 q)) := Blk2.below (Blk2.alloc (heap_alloc_new w _) _) b1
  have Y1 : Hid (Blk2 w1 (w.heap.size + 1) (.slice none 0 0) (.int .i64 0)) := by
    have h := heap_alloc_new (w.alloc (.cells #[.slice A n cap, .int .i64 q] 29)) (.cells #[.slice none 0 0, .int .i64 0] 29)
    rw [World.size_alloc] at h
    exact (b1.block _ (by simp)).trans h
  have V1 : Hid (DV w1 (w.heap.size + 1 + 1) w1.heap.size A1 ds) := by have h := v1; simp only [World.size_alloc] at h; exact h
  have B1 := Lib.hid (bel_trans hB0 b1)
  have z1 : w.heap.size + 1 < w1.heap.size := Y1.out.lt
  clear b1 v1 hB0
  obtain ⟨x0, x1, xf⟩ := X1.out.cells
  obtain ⟨y0, y1, yf⟩ := Y1.out.cells
  go_wp2
  refine bodyPost_ret (v := .agg #[.slice A1 n c1, .int .i64 q]) (by simp [results, Try.results87, go_sem, y0, y1]) rfl ⟨A1, c1, rfl, ?_, ?_⟩
  · refine DV.wide (lo := w.heap.size + 1 + 1) (hi := w1.heap.size) ?_ (by omega) (by simp [World.setCell])
    iterate 3 refine DV.setCell ?_ (by simp <;> omega) _
    exact V1.out
  · iterate 3 refine Below.setCell ?_ (by simp <;> omega) _
    exact B1.out
end Go.Proofs.Ytpjelojmkmednaa.Hp

namespace Go.Proofs.Ytpjelojmkmednaa.Hp
open Go.RowKit Go.Deep Base

/-- The first place of an Id among the items; -1 where it is not. -/
def fndD (ds : List Du) (id : Int) : Int := match ds.findIdx? (fun d => d.id == id) with
  | some i => (i : Int)
  | none => -1
theorem fndD_here {ds : List Du} {id : Int} {k : Nat} (hk : k < ds.length) (h : ∀ j, j < k → (ds.getD j zDu).id ≠ id) (he : (ds.getD k zDu).id = id) : fndD ds id = (k : Int) := by
  have : ds.findIdx? (fun d => d.id == id) = some k := by
    rw [List.findIdx?_eq_some_iff_getElem]
    refine ⟨hk, ?_, fun j hj => ?_⟩
    · rw [List.getD_eq_getElem?_getD, List.getElem?_eq_getElem hk] at he
      simpa using he
    · have := h j hj
      rw [List.getD_eq_getElem?_getD, List.getElem?_eq_getElem (by omega)] at this
      simpa using this
  unfold fndD; rw [this]
theorem fndD_not {ds : List Du} {id : Int} (h : ∀ j, j < ds.length → (ds.getD j zDu).id ≠ id) : fndD ds id = -1 := by
  have : ds.findIdx? (fun d => d.id == id) = none := by
    rw [List.findIdx?_eq_none_iff]
    intro x hx
    obtain ⟨j, hj, rfl⟩ := List.getElem_of_mem hx
    have := h j hj
    rw [List.getD_eq_getElem?_getD, List.getElem?_eq_getElem hj] at this
    simpa using this
  unfold fndD; rw [this]
theorem fndD_lt {ds : List Du} {id : Int} (h : ¬ fndD ds id < 0) : ∃ k : Nat, fndD ds id = (k : Int) ∧ k < ds.length := by
  unfold fndD at h ⊢
  split
  · next i e =>
    rw [List.findIdx?_eq_some_iff_getElem] at e
    exact ⟨i, rfl, e.1⟩
  · next e => rw [e] at h; exact absurd (by decide) h
theorem fndD_neg {ds : List Du} {id : Int} (h : fndD ds id < 0) : fndD ds id = -1 := by
  unfold fndD at h ⊢
  split
  · next i e => rw [e] at h; simp at h; omega
  · rfl

set_option maxRecDepth 100000 in
set_option maxHeartbeats 1000000 in
theorem specFind_any (A : Option Addr) (n cap lo hi : Nat) (ds : List Du) (q id : Int) (w : World) (hn : ds.length = n) (hm : n ≤ 1048576) (h : DV w lo hi A ds) (hs : hi ≤ w.heap.size) :
    Calls Try.prog 52 #[.agg #[.slice A n cap, .int .i64 q], .int .i64 id] w fun e w' => e = .returned (.int .i64 (fndD ds id)) ∧ Below w.heap.size w w' := by
  have Hn := Lib.hid hn
  have HI := Lib.hid h
  clear hn h
  go_enter Try.func52, Try.ntmps52
  go_wp2
  go_loop [5] (fun i => ∃ k : Nat, k ≤ n ∧ i = .int .i64 k ∧ ∀ j, j < k → (ds.getD j zDu).id ≠ id) (fun i => n - (intOf i).toNat)
  case atStart => exact ⟨0, Nat.zero_le _, rfl, fun j hj => absurd hj (by omega)⟩
  case round =>
    obtain ⟨k, hk, rfl, hq⟩ := hrel
    have Hq := Lib.hid hq
    clear hq
    by_cases hlt : k < n
    · obtain ⟨g, rfl, hg1, hg2, hrd⟩ := HI.out (by have := Hn.out; omega)
      obtain ⟨c0, c1, c2, _⟩ := hrd k (by have := Hn.out; omega)
      have hgl : g < w.heap.size := by omega
      obtain ⟨dat, dseq, did, hd⟩ : ∃ a b c, ds.getD k zDu = ⟨a, b, c⟩ := ⟨_, _, _, rfl⟩
      rw [hd] at c0 c1 c2
      dsimp only at c0 c1 c2
      have Hd := Lib.hid hd
      clear hd hrd
      have hk0 : (0 : Int) ≤ (k : Int) := by omega
      have hk1 : (k : Int) < (n : Int) := by omega
      by_cases he : did = id
      · have He := Lib.hid he
        have heb : (did == id) = true := by simpa using he
        clear he
        go_wp2
        go_ret
        exact ⟨by rw [fndD_here (by rw [Hn.out]; exact hlt) Hq.out (by rw [Hd.out]; exact He.out)]; rfl, bel_alloc _ _⟩
      · have heb : (did == id) = false := by simpa using he
        have He := Lib.hid he
        clear he
        go_wp2
        go_round
        case rel =>
          refine ⟨k + 1, by omega, by go_num, fun j hj => ?_⟩
          by_cases e : j = k
          · subst e; rw [Hd.out]; exact He.out
          · exact Hq.out j (by omega)
        case measure => simp [intOf]; omega
    · obtain rfl : k = n := by omega
      go_wp2
      go_ret
      exact ⟨by rw [fndD_not (by rw [Hn.out]; exact Hq.out)]; rfl, bel_alloc _ _⟩

set_option maxRecDepth 100000 in
theorem closure_any (a b c id : Int) (g : Nat) (w : World) (h : w.cell? ⟨g, 0, none⟩ = some (.int .i64 id)) :
    Calls Try.prog 121 #[.agg #[.int .i64 a, .int .i64 b, .int .i64 c], .pointer (some ⟨g, 0, none⟩)] w fun e w' => e = .returned (.bool (c == id)) ∧ Below w.heap.size w w' := by
  have hg := World.block_lt_of_cell? _ _ h
  go_enter Try.func121, Try.ntmps121
  go_wp2
  go_ret
  exact ⟨rfl, bel_alloc _ _⟩

set_option maxRecDepth 100000 in
set_option maxHeartbeats 1000000 in
theorem indexFunc_any (A : Option Addr) (n cap lo hi : Nat) (ds : List Du) (id : Int) (b : Nat) (w : World) (hn : ds.length = n) (hm : n ≤ 1048576) (h : DV w lo hi A ds) (hs : hi ≤ w.heap.size) (hb : w.cell? ⟨b, 0, none⟩ = some (.int .i64 id)) :
    Calls Try.prog 120 #[.slice A n cap, .func (.func 121) #[] #[.pointer (some ⟨b, 0, none⟩)]] w fun e w' => e = .returned (.int .i64 (fndD ds id)) ∧ Below w.heap.size w w' := by
  have Hn := Lib.hid hn
  have HI := Lib.hid h
  have HB := Lib.hid hb
  clear hn h hb
  go_enter Try.func120, Try.ntmps120
  go_wp2
  go_loopw [8] (fun i wr => ∃ k : Nat, k ≤ n ∧ i = .int .i64 k ∧ Below w.heap.size w wr ∧ ∀ j, j < k → (ds.getD j zDu).id ≠ id) (fun i _ => n - (intOf i).toNat)
  case atStart => exact ⟨0, Nat.zero_le _, rfl, Below.refl _ _, fun j hj => absurd hj (by omega)⟩
  case round =>
    obtain ⟨k, hk, rfl, hr, hq⟩ := hrel
    have Hq := Lib.hid hq
    have Hr := Lib.hid hr
    clear hq hr
    by_cases hlt : k < n
    · obtain ⟨g, rfl, hg1, hg2, hrd⟩ := (HI.out.below Hr.out hs) (by have := Hn.out; omega)
      obtain ⟨c0, c1, c2, _⟩ := hrd k (by have := Hn.out; omega)
      obtain ⟨dat, dseq, did, hd⟩ : ∃ a b c, ds.getD k zDu = ⟨a, b, c⟩ := ⟨_, _, _, rfl⟩
      rw [hd] at c0 c1 c2
      dsimp only at c0 c1 c2
      have Hd := Lib.hid hd
      clear hd hrd
      have hk0 : (0 : Int) ≤ (k : Int) := by omega
      have hk1 : (k : Int) < (n : Int) := by omega
      go_wp2_with fail
      refine (closure_any dat dseq did id b _ (bkeep HB.out Hr.out)).mono ?_
      rintro e w1 ⟨rfl, b1⟩
      have B1 := Lib.hid (bel_trans Hr.out b1)
      clear b1
      by_cases he : did = id
      · have He := Lib.hid he
        have heb : (did == id) = true := by simpa using he
        clear he
        rw [heb]
        go_wp2
        go_ret
        exact ⟨by rw [fndD_here (by rw [Hn.out]; exact hlt) Hq.out (by rw [Hd.out]; exact He.out)]; rfl, B1.out⟩
      · have heb : (did == id) = false := by simpa using he
        have He := Lib.hid he
        clear he
        rw [heb]
        go_wp2
        go_roundw
        case rel =>
          refine ⟨k + 1, by omega, by go_num, B1.out, fun j hj => ?_⟩
          by_cases e : j = k
          · subst e; rw [Hd.out]; exact He.out
          · exact Hq.out j (by omega)
        case measure => simp [intOf]; omega
    · obtain rfl : k = n := by omega
      go_wp2
      go_ret
      exact ⟨by rw [fndD_not (by rw [Hn.out]; exact Hq.out)]; rfl, Hr.out⟩

set_option maxRecDepth 100000 in
theorem indexOf_any (A : Option Addr) (n cap lo hi : Nat) (ds : List Du) (id : Int) (w : World) (hn : ds.length = n) (hm : n ≤ 1048576) (h : DV w lo hi A ds) (hs : hi ≤ w.heap.size) :
    Calls Try.prog 88 #[.slice A n cap, .int .i64 id] w fun e w' => e = .returned (.int .i64 (fndD ds id)) ∧ Below w.heap.size w w' := by
  have Hn := Lib.hid hn
  have HI := Lib.hid h
  clear hn h
  have hmf : ∀ (fn : Fn) (first cap : Array Value) (w : World), (Instr.makeFunc fn first cap).run Try.prog w = .ok (.func fn first cap) w := fun _ _ _ _ => rfl
  go_enter Try.func88, Try.ntmps88
  go_wp2_with fail
  refine (indexFunc_any A n cap lo hi ds id w.heap.size _ Hn.out hm (HI.out.below (bel_alloc w _) hs) (by simp; omega) (by simp [go_sem])).mono ?_
  rintro e w1 ⟨rfl, b1⟩
  have B1 := Lib.hid (bel_trans (bel_alloc w _) b1)
  clear b1
  go_wp2
  go_ret
  exact ⟨rfl, B1.out⟩

/-- DueOf's answer. -/
def dueA (ds : List Du) (q id : Int) : Int := if okH ds q = true ∧ 0 ≤ fndD ds id then (ds.getD (fndD ds id).toNat zDu).at else -1
theorem dueA_bad {ds : List Du} {q id : Int} (h : okH ds q = false) : dueA ds q id = -1 := by unfold dueA; rw [if_neg (by rw [h]; simp)]
theorem dueA_none {ds : List Du} {q id : Int} (h : fndD ds id < 0) : dueA ds q id = -1 := by unfold dueA; rw [if_neg (by omega)]
theorem dueA_at {ds : List Du} {q id : Int} {k : Nat} (h : okH ds q = true) (hk : fndD ds id = (k : Int)) : dueA ds q id = (ds.getD k zDu).at := by unfold dueA; rw [if_pos ⟨h, by omega⟩, hk, Int.toNat_natCast]


end Go.Proofs.Ytpjelojmkmednaa.Hp

namespace Go.Proofs.Ytpjelojmkmednaa.Hp
open Go.RowKit Go.Deep Base

/-- CancelDue's answer: may it, and the items behind it. -/
def canB (ds : List Du) (q id : Int) : Bool := okH ds q && decide (0 ≤ fndD ds id)
def canD (ds : List Du) (q id : Int) : List Du := if canB ds q id = true then remD ds (fndD ds id).toNat else ds
theorem canB_bad {ds : List Du} {q id : Int} (h : okH ds q = false) : canB ds q id = false := by unfold canB; rw [h]; rfl
theorem canB_none {ds : List Du} {q id : Int} (h : fndD ds id < 0) : canB ds q id = false := by unfold canB; rw [decide_eq_false (by omega)]; simp
theorem canB_yes {ds : List Du} {q id : Int} {k : Nat} (h : okH ds q = true) (hk : fndD ds id = (k : Int)) : canB ds q id = true := by unfold canB; rw [h, hk, decide_eq_true (by omega)]; rfl
theorem canD_no {ds : List Du} {q id : Int} (h : canB ds q id = false) : canD ds q id = ds := by unfold canD; rw [if_neg (by rw [h]; simp)]
theorem canD_yes {ds : List Du} {q id : Int} {k : Nat} (h : okH ds q = true) (hk : fndD ds id = (k : Int)) : canD ds q id = remD ds k := by unfold canD; rw [if_pos (canB_yes h hk), hk, Int.toNat_natCast]
theorem canD_len (ds : List Du) (q id : Int) : (canD ds q id).length ≤ ds.length := by
  unfold canD
  split
  · rw [remD_len]; omega
  · exact Nat.le_refl _

/-- What a call leaves that hands back a heap and whether it did what was asked. -/
def HeapEnd (w : World) (ds' : List Du) (q' : Int) (v : Bool) (e : Ending) (w' : World) : Prop :=
  ∃ A cap, e = .returned (.tuple #[.agg #[.slice A ds'.length cap, .int .i64 q'], .bool v]) ∧ DV w' w.heap.size w'.heap.size A ds' ∧ Below w.heap.size w w'

set_option maxRecDepth 100000 in
set_option maxHeartbeats 1000000 in
theorem implCancel_any (A : Option Addr) (n cap lo hi : Nat) (ds : List Du) (q id : Int) (w : World) (hn : ds.length = n) (hm : n ≤ 1048576) (h : DV w lo hi A ds) (hs : hi ≤ w.heap.size) :
    Calls Try.prog 45 #[.agg #[.slice A n cap, .int .i64 q], .int .i64 id] w (HeapEnd w (canD ds q id) q (canB ds q id)) := by
  have Hn := Lib.hid hn
  have HI := Lib.hid h
  clear hn h
  go_enter Try.func45, Try.ntmps45
  go_wp2_with fail
  have hB0 : Below w.heap.size w ((w.alloc (.cells #[.slice A n cap, .int .i64 q] 29)).alloc (.cells #[.slice none 0 0, .int .i64 0] 29)) := ((Below.refl _ _).alloc (Nat.le_refl _) _).alloc (by simp) _
  refine (treeOf_sh A n cap lo hi ds q _ Hn.out hm (HI.out.below hB0 hs) (by simp; omega)).mono ?_
  rintro e w1 ⟨A1, c1, rfl, v1, b1, sh1⟩
  have X1 : Hid (Blk2 w1 w.heap.size (.slice A n cap) (.int .i64 q)) := Blk2.below (Blk2.alloc (heap_alloc_new w _) _) b1
  have Y1 : Hid (Blk2 w1 (w.heap.size + 1) (.slice none 0 0) (.int .i64 0)) := by
    have h := heap_alloc_new (w.alloc (.cells #[.slice A n cap, .int .i64 q] 29)) (.cells #[.slice none 0 0, .int .i64 0] 29)
    rw [World.size_alloc] at h
    exact (b1.block _ (by simp)).trans h
  have V1 : Hid (DV w1 (w.heap.size + 1 + 1) w1.heap.size A1 ds) := by have h := v1; simp only [World.size_alloc] at h; exact h
  have S1 : Hid (Sh w1 (w.heap.size + 1 + 1) w1.heap.size A1 n c1) := by have h := sh1; simp only [World.size_alloc] at h; exact h
  have B1 := Lib.hid (bel_trans hB0 b1)
  have z1 : w.heap.size + 1 < w1.heap.size := Y1.out.lt
  clear b1 v1 hB0 sh1
  go_wp2_with fail
  obtain ⟨W3, hW3⟩ : ∃ W3, w1.alloc (.cells #[.slice A1 n c1, .func (.func 116) #[] #[]] 104) = W3 := ⟨_, rfl⟩
  have T3 : Hid (Tr W3 w1.heap.size A1 n c1) := by rw [← hW3]; exact heap_alloc_new w1 _
  have V3 : Hid (DV W3 (w.heap.size + 1 + 1) w1.heap.size A1 ds) := by rw [← hW3]; exact V1.out.below (bel_alloc w1 _) (Nat.le_refl _)
  have S3 : Hid (Sh W3 (w.heap.size + 1 + 1) w1.heap.size A1 n c1) := by rw [← hW3]; exact S1.out.below (bel_alloc w1 _) (Nat.le_refl _)
  have X3 : Hid (Blk2 W3 w.heap.size (.slice A n cap) (.int .i64 q)) := by rw [← hW3]; exact X1.out.alloc _
  have Y3 : Hid (Blk2 W3 (w.heap.size + 1) (.slice none 0 0) (.int .i64 0)) := by rw [← hW3]; exact Y1.out.alloc _
  have B3 : Hid (Below w.heap.size w W3) := by rw [← hW3]; exact bel_trans B1.out (bel_alloc w1 _)
  have z3 : w1.heap.size < W3.heap.size := by rw [← hW3]; simp
  rw [hW3]
  clear hW3 V1 B1 S1 X1 Y1
  refine (indexOf_any A1 n c1 _ _ ds id W3 Hn.out hm V3.out (by omega)).mono ?_
  rintro e w4 ⟨rfl, b4⟩
  have B4 := Lib.hid (bel_trans B3.out b4)
  have T4 := Lib.hid (T3.out.below b4)
  have V4 := Lib.hid (V3.out.below b4 (by omega))
  have S4 := Lib.hid (S3.out.below b4 (by omega))
  have X4 := Lib.hid (X3.out.below b4)
  have Y4 := Lib.hid (Y3.out.below b4)
  have z4 : w1.heap.size < w4.heap.size := T4.out.lt
  clear b4 T3 V3 S3 X3 Y3 B3
  obtain ⟨x0, x1, xf⟩ := X4.out.cells
  cases hcan : canB ds q id
  · have Hcan := Lib.hid hcan
    have Hcd := Lib.hid (canD_no hcan)
    have hno : okH ds q = false ∨ (okH ds q = true ∧ fndD ds id < 0) := by
      unfold canB at hcan
      cases ho : okH ds q
      · exact .inl rfl
      · rw [ho] at hcan
        simp at hcan
        exact .inr ⟨rfl, by omega⟩
    clear hcan
    obtain ⟨ok, hok⟩ : ∃ ok, okH ds q = ok := ⟨_, rfl⟩
    obtain ⟨fv, hfv⟩ : ∃ fv, fndD ds id = fv := ⟨_, rfl⟩
    rw [hok, hfv] at hno
    rw [hok, hfv]
    clear hok hfv
    have HSame : Hid (∀ W, Below w4.heap.size w4 W → Calls Try.prog 87 #[.agg #[.slice A n cap, .int .i64 q]] W (NewH W n ds q)) := fun W hW =>
      sameHeap_any A n cap lo hi ds q W Hn.out hm (HI.out.below (bel_trans B4.out hW) hs) (by have := B4.out.size; have := hW.size; omega)
    have HEnd : Hid (∀ w5 A5 c5, DV w5 w4.heap.size w5.heap.size A5 ds → Below w4.heap.size w4 w5 → HeapEnd w (canD ds q id) q (canB ds q id) (.returned (.tuple #[.agg #[.slice A5 n c5, .int .i64 q], .bool false])) ((w5.setCell ⟨w.heap.size + 1, 0, none⟩ (.slice A5 n c5)).setCell ⟨w.heap.size + 1, 1, none⟩ (.int .i64 q))) := fun w5 A5 c5 v5 b5 => by
      have := b5.size
      rw [Hcd.out, Hcan.out]
      refine ⟨A5, c5, by rw [Hn.out], ?_, ?_⟩
      · refine DV.wide (lo := w4.heap.size) (hi := w5.heap.size) ?_ (by omega) (by simp [World.setCell])
        iterate 2 refine DV.setCell ?_ (by show w.heap.size + 1 < w4.heap.size; omega) _
        exact v5
      · iterate 2 refine Below.setCell ?_ (by show w.heap.size ≤ w.heap.size + 1; omega) _
        exact bel_trans B4.out b5
    rcases hno with rfl | ⟨rfl, hf⟩
    · go_wp2_with fail
      refine (HSame.out _ (Below.refl _ _)).mono ?_
      rintro e w5 ⟨A5, c5, rfl, v5, b5⟩
      have Y5 := Lib.hid (Y4.out.below b5)
      have V5 := Lib.hid v5
      have B5 := Lib.hid b5
      clear b5 v5
      obtain ⟨y0, y1, yf⟩ := Y5.out.cells
      have hyl := Y5.out.lt
      go_wp2
      exact bodyPost_ret (v := .tuple #[.agg #[.slice A5 n c5, .int .i64 q], .bool false]) (by simp [results, Try.results45, go_sem, y0, y1]) rfl (HEnd.out w5 A5 c5 V5.out B5.out)
    · go_wp2_with fail
      refine (HSame.out _ (Below.refl _ _)).mono ?_
      rintro e w5 ⟨A5, c5, rfl, v5, b5⟩
      have Y5 := Lib.hid (Y4.out.below b5)
      have V5 := Lib.hid v5
      have B5 := Lib.hid b5
      clear b5 v5
      obtain ⟨y0, y1, yf⟩ := Y5.out.cells
      have hyl := Y5.out.lt
      go_wp2
      exact bodyPost_ret (v := .tuple #[.agg #[.slice A5 n c5, .int .i64 q], .bool false]) (by simp [results, Try.results45, go_sem, y0, y1]) rfl (HEnd.out w5 A5 c5 V5.out B5.out)
  have hok : okH ds q = true := by unfold canB at hcan; simp at hcan; exact hcan.1
  have hf : ¬ fndD ds id < 0 := by unfold canB at hcan; simp at hcan; omega
  obtain ⟨k, hfk, hkl⟩ := fndD_lt hf
  have Hcd := Lib.hid (canD_yes hok hfk)
  have Hcan := Lib.hid hcan
  rw [hok, hfk]
  clear hok hf hfk hcan
  rw [Hn.out] at hkl
  have hk0 : (0 : Int) ≤ (k : Int) := by omega
  have hkn : ¬ (k : Int) < 0 := by omega
  obtain ⟨g, cur, rfl, hg1, hg2, hgc, hcap, hcm, hcs⟩ : ∃ g cur, A1 = some ⟨g, 0, none⟩ ∧ w.heap.size + 1 + 1 ≤ g ∧ g < w1.heap.size ∧ w4.heap[g]? = some (.cells cur 80 (0, 0)) ∧ n ≤ c1 ∧ c1 ≤ maxLen ∧ cur.size = c1 * 3 := by
    rcases S4.out with ⟨_, h0, _⟩ | h
    · omega
    · exact h
  have R4 : Hid (Rd w4 g ds) := by
    obtain ⟨g', e, _, _, h3⟩ := V4.out (by rw [Hn.out]; omega)
    injection e with e
    injection e with e _ _
    subst e
    exact h3
  obtain ⟨m, rfl⟩ : ∃ m, n = m + 1 := ⟨n - 1, by omega⟩
  go_wp2_with fail
  refine (remove_any w1.heap.size g m c1 k g (w1.heap.size + 1) ds w4 Hn.out hm hkl hcap T4.out R4.out (by omega) (by omega) (Nat.le_refl _) (by omega) (by omega) (by omega)).mono ?_
  rintro e w5 ⟨rfl, t5, r5, n5⟩
  have R5 := Lib.hid r5
  have N5 := Lib.hid n5
  have X5 := Lib.hid (X4.out.of_block (n5.block _ (by omega) (by omega)))
  have Y5 := Lib.hid (Y4.out.of_block (n5.block _ (by omega) (by omega)))
  have T5 := Lib.hid t5
  have z5 : w4.heap.size ≤ w5.heap.size := n5.size
  clear r5 n5 t5 x0 x1 xf hgc hcs hcm
  obtain ⟨t0, t1, _⟩ := T5.out.cells
  obtain ⟨x0, x1, xf⟩ := X5.out.cells
  obtain ⟨y0, y1, yf⟩ := Y5.out.cells
  have hyl := Y5.out.lt
  have htl := T5.out.lt
  go_wp2
  refine bodyPost_ret (v := .tuple #[.agg #[.slice (some ⟨g, 0, none⟩) m c1, .int .i64 q], .bool true]) (by simp [results, Try.results45, go_sem, y0, y1]) rfl ⟨some ⟨g, 0, none⟩, c1, by rw [Hcd.out, remD_len, Hn.out, Hcan.out]; rfl, ?_, ?_⟩
  · refine DV.wide (lo := w.heap.size + 1 + 1) (hi := w5.heap.size) ?_ (by omega) (by simp [World.setCell])
    iterate 2 refine DV.setCell ?_ (by show w.heap.size + 1 < w.heap.size + 1 + 1; omega) _
    rw [Hcd.out]
    exact fun _ => ⟨g, rfl, hg1, by omega, R5.out⟩
  · iterate 2 refine Below.setCell ?_ (by show w.heap.size ≤ w.heap.size + 1; omega) _
    exact B4.out.trans (N5.out.toTurns.below (by omega) (by have := B4.out.size; omega))
end Go.Proofs.Ytpjelojmkmednaa.Hp
