/- What DueOf answers: the reference's and the program's. -/
import Derived.Test.YtnmhdbfemobhkaaHp9
namespace Go.Proofs.Ytnmhdbfemobhkaa.Hp
open Go.RowKit Go.Deep Base

/-- The first place of an Id among the items; -1 where it is not. -/
def fndD (ds : List Du) (id : Int) : Int := match ds.findIdx? (fun d => d.id == id) with
  | some i => (i : Int)
  | none => -1
theorem fndD_here {ds : List Du} {id : Int} {k : Nat} (hk : k < ds.length) (h : ∀ j, j < k → (ds.getD j zDu).id ≠ id) (he : (ds.getD k zDu).id = id) : fndD ds id = (k : Int) := by
  have : ds.findIdx? (fun d => d.id == id) = some k := by
    rw [List.findIdx?_eq_some_iff_getElem]
    refine ⟨hk, ?_, fun j hj => ?_⟩
    · rw [List.getD_eq_getElem?_getD, List.getElem?_eq_getElem hk] at he
      simpa using he
    · have := h j hj
      rw [List.getD_eq_getElem?_getD, List.getElem?_eq_getElem (by omega)] at this
      simpa using this
  unfold fndD; rw [this]
theorem fndD_not {ds : List Du} {id : Int} (h : ∀ j, j < ds.length → (ds.getD j zDu).id ≠ id) : fndD ds id = -1 := by
  have : ds.findIdx? (fun d => d.id == id) = none := by
    rw [List.findIdx?_eq_none_iff]
    intro x hx
    obtain ⟨j, hj, rfl⟩ := List.getElem_of_mem hx
    have := h j hj
    rw [List.getD_eq_getElem?_getD, List.getElem?_eq_getElem hj] at this
    simpa using this
  unfold fndD; rw [this]
theorem fndD_lt {ds : List Du} {id : Int} (h : ¬ fndD ds id < 0) : ∃ k : Nat, fndD ds id = (k : Int) ∧ k < ds.length := by
  unfold fndD at h ⊢
  split
  · next i e =>
    rw [List.findIdx?_eq_some_iff_getElem] at e
    exact ⟨i, rfl, e.1⟩
  · next e => rw [e] at h; exact absurd (by decide) h
theorem fndD_neg {ds : List Du} {id : Int} (h : fndD ds id < 0) : fndD ds id = -1 := by
  unfold fndD at h ⊢
  split
  · next i e => rw [e] at h; simp at h; omega
  · rfl

set_option maxRecDepth 100000 in
set_option maxHeartbeats 1000000 in
theorem specFind_any (A : Option Addr) (n cap lo hi : Nat) (ds : List Du) (q id : Int) (w : World) (hn : ds.length = n) (hm : n ≤ 1048576) (h : DV w lo hi A ds) (hs : hi ≤ w.heap.size) :
    Calls Try.prog 70 #[.agg #[.slice A n cap, .int .i64 q], .int .i64 id] w fun e w' => e = .returned (.int .i64 (fndD ds id)) ∧ Below w.heap.size w w' := by
  have Hn := Lib.hid hn
  have HI := Lib.hid h
  clear hn h
  go_enter Try.func70, Try.ntmps70
  go_wp2
  go_loop [5] (fun i => ∃ k : Nat, k ≤ n ∧ i = .int .i64 k ∧ ∀ j, j < k → (ds.getD j zDu).id ≠ id) (fun i => n - (intOf i).toNat)
  case atStart => exact ⟨0, Nat.zero_le _, rfl, fun j hj => absurd hj (by omega)⟩
  case round =>
    obtain ⟨k, hk, rfl, hq⟩ := hrel
    have Hq := Lib.hid hq
    clear hq
    by_cases hlt : k < n
    · obtain ⟨g, rfl, hg1, hg2, hrd⟩ := HI.out (by have := Hn.out; omega)
      obtain ⟨c0, c1, c2, _⟩ := hrd k (by have := Hn.out; omega)
      have hgl : g < w.heap.size := by omega
      obtain ⟨dat, dseq, did, hd⟩ : ∃ a b c, ds.getD k zDu = ⟨a, b, c⟩ := ⟨_, _, _, rfl⟩
      rw [hd] at c0 c1 c2
      dsimp only at c0 c1 c2
      have Hd := Lib.hid hd
      clear hd hrd
      have hk0 : (0 : Int) ≤ (k : Int) := by omega
      have hk1 : (k : Int) < (n : Int) := by omega
      by_cases he : did = id
      · have He := Lib.hid he
        have heb : (did == id) = true := by simpa using he
        clear he
        go_wp2
        go_ret
        exact ⟨by rw [fndD_here (by rw [Hn.out]; exact hlt) Hq.out (by rw [Hd.out]; exact He.out)]; rfl, bel_alloc _ _⟩
      · have heb : (did == id) = false := by simpa using he
        have He := Lib.hid he
        clear he
        go_wp2
        go_round
        case rel =>
          refine ⟨k + 1, by omega, by go_num, fun j hj => ?_⟩
          by_cases e : j = k
          · subst e; rw [Hd.out]; exact He.out
          · exact Hq.out j (by omega)
        case measure => simp [intOf]; omega
    · obtain rfl : k = n := by omega
      go_wp2
      go_ret
      exact ⟨by rw [fndD_not (by rw [Hn.out]; exact Hq.out)]; rfl, bel_alloc _ _⟩

theorem closure_any (a b c id : Int) (g : Nat) (w : World) (h : w.cell? ⟨g, 0, none⟩ = some (.int .i64 id)) :
    Calls Try.prog 82 #[.agg #[.int .i64 a, .int .i64 b, .int .i64 c], .pointer (some ⟨g, 0, none⟩)] w fun e w' => e = .returned (.bool (c == id)) ∧ Below w.heap.size w w' := by
  have hg := World.block_lt_of_cell? _ _ h
  go_enter Try.func82, Try.ntmps82
  go_wp2
  go_ret
  exact ⟨rfl, bel_alloc _ _⟩

set_option maxRecDepth 100000 in
set_option maxHeartbeats 1000000 in
theorem indexFunc_any (A : Option Addr) (n cap lo hi : Nat) (ds : List Du) (id : Int) (b : Nat) (w : World) (hn : ds.length = n) (hm : n ≤ 1048576) (h : DV w lo hi A ds) (hs : hi ≤ w.heap.size) (hb : w.cell? ⟨b, 0, none⟩ = some (.int .i64 id)) :
    Calls Try.prog 81 #[.slice A n cap, .func (.func 82) #[] #[.pointer (some ⟨b, 0, none⟩)]] w fun e w' => e = .returned (.int .i64 (fndD ds id)) ∧ Below w.heap.size w w' := by
  have Hn := Lib.hid hn
  have HI := Lib.hid h
  have HB := Lib.hid hb
  clear hn h hb
  go_enter Try.func81, Try.ntmps81
  go_wp2
  go_loopw [8] (fun i wr => ∃ k : Nat, k ≤ n ∧ i = .int .i64 k ∧ Below w.heap.size w wr ∧ ∀ j, j < k → (ds.getD j zDu).id ≠ id) (fun i _ => n - (intOf i).toNat)
  case atStart => exact ⟨0, Nat.zero_le _, rfl, Below.refl _ _, fun j hj => absurd hj (by omega)⟩
  case round =>
    obtain ⟨k, hk, rfl, hr, hq⟩ := hrel
    have Hq := Lib.hid hq
    have Hr := Lib.hid hr
    clear hq hr
    by_cases hlt : k < n
    · obtain ⟨g, rfl, hg1, hg2, hrd⟩ := (HI.out.below Hr.out hs) (by have := Hn.out; omega)
      obtain ⟨c0, c1, c2, _⟩ := hrd k (by have := Hn.out; omega)
      obtain ⟨dat, dseq, did, hd⟩ : ∃ a b c, ds.getD k zDu = ⟨a, b, c⟩ := ⟨_, _, _, rfl⟩
      rw [hd] at c0 c1 c2
      dsimp only at c0 c1 c2
      have Hd := Lib.hid hd
      clear hd hrd
      have hk0 : (0 : Int) ≤ (k : Int) := by omega
      have hk1 : (k : Int) < (n : Int) := by omega
      go_wp2_with fail
      refine (closure_any dat dseq did id b _ (bkeep HB.out Hr.out)).mono ?_
      rintro e w1 ⟨rfl, b1⟩
      have B1 := Lib.hid (bel_trans Hr.out b1)
      clear b1
      by_cases he : did = id
      · have He := Lib.hid he
        have heb : (did == id) = true := by simpa using he
        clear he
        rw [heb]
        go_wp2
        go_ret
        exact ⟨by rw [fndD_here (by rw [Hn.out]; exact hlt) Hq.out (by rw [Hd.out]; exact He.out)]; rfl, B1.out⟩
      · have heb : (did == id) = false := by simpa using he
        have He := Lib.hid he
        clear he
        rw [heb]
        go_wp2
        go_roundw
        case rel =>
          refine ⟨k + 1, by omega, by go_num, B1.out, fun j hj => ?_⟩
          by_cases e : j = k
          · subst e; rw [Hd.out]; exact He.out
          · exact Hq.out j (by omega)
        case measure => simp [intOf]; omega
    · obtain rfl : k = n := by omega
      go_wp2
      go_ret
      exact ⟨by rw [fndD_not (by rw [Hn.out]; exact Hq.out)]; rfl, Hr.out⟩

theorem indexOf_any (A : Option Addr) (n cap lo hi : Nat) (ds : List Du) (id : Int) (w : World) (hn : ds.length = n) (hm : n ≤ 1048576) (h : DV w lo hi A ds) (hs : hi ≤ w.heap.size) :
    Calls Try.prog 55 #[.slice A n cap, .int .i64 id] w fun e w' => e = .returned (.int .i64 (fndD ds id)) ∧ Below w.heap.size w w' := by
  have Hn := Lib.hid hn
  have HI := Lib.hid h
  clear hn h
  have hmf : ∀ (fn : Fn) (first cap : Array Value) (w : World), (Instr.makeFunc fn first cap).run Try.prog w = .ok (.func fn first cap) w := fun _ _ _ _ => rfl
  go_enter Try.func55, Try.ntmps55
  go_wp2_with fail
  refine (indexFunc_any A n cap lo hi ds id w.heap.size _ Hn.out hm (HI.out.below (bel_alloc w _) hs) (by simp; omega) (by simp [go_sem])).mono ?_
  rintro e w1 ⟨rfl, b1⟩
  have B1 := Lib.hid (bel_trans (bel_alloc w _) b1)
  clear b1
  go_wp2
  go_ret
  exact ⟨rfl, B1.out⟩

/-- DueOf's answer. -/
def dueA (ds : List Du) (q id : Int) : Int := if okH ds q = true ∧ 0 ≤ fndD ds id then (ds.getD (fndD ds id).toNat zDu).at else -1
theorem dueA_bad {ds : List Du} {q id : Int} (h : okH ds q = false) : dueA ds q id = -1 := by unfold dueA; rw [if_neg (by rw [h]; simp)]
theorem dueA_none {ds : List Du} {q id : Int} (h : fndD ds id < 0) : dueA ds q id = -1 := by unfold dueA; rw [if_neg (by omega)]
theorem dueA_at {ds : List Du} {q id : Int} {k : Nat} (h : okH ds q = true) (hk : fndD ds id = (k : Int)) : dueA ds q id = (ds.getD k zDu).at := by unfold dueA; rw [if_pos ⟨h, by omega⟩, hk, Int.toNat_natCast]

set_option maxRecDepth 100000 in
set_option maxHeartbeats 1000000 in
theorem implDueOf_any (A : Option Addr) (n cap lo hi : Nat) (ds : List Du) (q id : Int) (w : World) (hn : ds.length = n) (hm : n ≤ 1048576) (h : DV w lo hi A ds) (hs : hi ≤ w.heap.size) :
    Calls Try.prog 19 #[.agg #[.slice A n cap, .int .i64 q], .int .i64 id] w fun e w' => e = .returned (.int .i64 (dueA ds q id)) ∧ Below w.heap.size w w' := by
  have Hn := Lib.hid hn
  have HI := Lib.hid h
  clear hn h
  go_enter Try.func19, Try.ntmps19
  go_wp2_with fail
  refine (treeOf_any A n cap lo hi ds q _ Hn.out hm (HI.out.below (bel_alloc w _) hs) (by simp; omega)).mono ?_
  rintro e w1 ⟨A1, c1, rfl, v1, b1⟩
  have B1 := Lib.hid (bel_trans (bel_alloc w _) b1)
  have V1 := Lib.hid v1
  clear b1 v1
  rw [World.size_alloc] at V1
  go_wp2_with fail
  obtain ⟨W3, hW3⟩ : ∃ W3, w1.alloc (.cells #[.slice A1 n c1, .func (.func 78) #[] #[]] 69) = W3 := ⟨_, rfl⟩
  have T3 : Hid (Tr W3 w1.heap.size A1 n c1) := by rw [← hW3]; exact heap_alloc_new w1 _
  have V3 : Hid (DV W3 (w.heap.size + 1) w1.heap.size A1 ds) := by rw [← hW3]; exact V1.out.below (bel_alloc w1 _) (Nat.le_refl _)
  have B3 : Hid (Below w.heap.size w W3) := by rw [← hW3]; exact bel_trans B1.out (bel_alloc w1 _)
  have z3 : w1.heap.size < W3.heap.size := by rw [← hW3]; simp
  rw [hW3]
  clear hW3 V1 B1
  refine (indexOf_any A1 n c1 _ _ ds id W3 Hn.out hm V3.out (by omega)).mono ?_
  rintro e w4 ⟨rfl, b4⟩
  have B4 := Lib.hid (bel_trans B3.out b4)
  obtain ⟨t0, t1, _⟩ := (T3.out.below b4).cells
  have V4 := Lib.hid (V3.out.below b4 (by omega))
  clear b4
  cases hok : okH ds q
  · have Ho := Lib.hid (dueA_bad (id := id) hok)
    clear hok
    go_wp2
    go_ret
    exact ⟨by rw [Ho.out]; rfl, B4.out⟩
  by_cases hf : fndD ds id < 0
  · have Ho := Lib.hid (dueA_none (q := q) hf)
    have Hok := Lib.hid hok
    clear hok
    obtain ⟨fv, hfv⟩ : ∃ fv, fndD ds id = fv := ⟨_, rfl⟩
    rw [hfv] at hf ⊢
    clear hfv
    go_wp2
    go_ret
    exact ⟨by rw [Ho.out]; rfl, B4.out⟩
  obtain ⟨k, hfk, hkl⟩ := fndD_lt hf
  have Ho := Lib.hid (dueA_at hok hfk)
  rw [hfk]
  clear hok hf hfk
  rw [Hn.out] at hkl
  obtain ⟨g, rfl, _, _, hrd⟩ := V4.out (by have := Hn.out; omega)
  obtain ⟨c0, _, _, _⟩ := hrd k (by have := Hn.out; omega)
  obtain ⟨dat, hd⟩ : ∃ a, (ds.getD k zDu).at = a := ⟨_, rfl⟩
  rw [hd] at c0
  have Hd := Lib.hid hd
  clear hd hrd
  have hk0 : (0 : Int) ≤ (k : Int) := by omega
  have hk1 : (k : Int) < (n : Int) := by omega
  go_wp2
  go_ret
  exact ⟨by rw [Ho.out, Hd.out]; rfl, B4.out⟩
end Go.Proofs.Ytnmhdbfemobhkaa.Hp
