/- What linkOk, idOk and linksInRange answer. -/
import Derived.Test.YtjbfmagedkmngaaQue9
namespace Go.Proofs.Ytjbfmagedkmngaa.Que
open Go.RowKit Go.Deep Base

def lnkB (x : Int) : Bool := decide (-1 ≤ x) && decide (x < 60)
theorem lnkB_true {x : Int} (h1 : -1 ≤ x) (h2 : x < 60) : lnkB x = true := by simp [lnkB, h1, h2]
theorem lnkB_false {x : Int} (h : x < -1 ∨ 60 ≤ x) : lnkB x = false := by
  unfold lnkB
  rcases h with h | h
  · rw [decide_eq_false (by omega)]; rfl
  · rw [decide_eq_false (p := x < 60) (by omega)]; simp
theorem linkOk_any (x : Int) (w : World) : Calls Try.prog 69 #[.int .i64 x] w fun e w' => e = .returned (.bool (lnkB x)) ∧ w = w' := by
  by_cases h0 : -1 ≤ x
  · by_cases h1 : x < 60
    · go_enter Try.func69, Try.ntmps69
      go_wp2
      go_ret
      exact ⟨ret_bool (lnkB_true h0 h1).symm, rfl⟩
    · go_enter Try.func69, Try.ntmps69
      go_wp2
      go_ret
      exact ⟨ret_bool (lnkB_false (by omega)).symm, rfl⟩
  · go_enter Try.func69, Try.ntmps69
    go_wp2
    go_ret
    exact ⟨ret_bool (lnkB_false (by omega)).symm, rfl⟩

def idB (x : Int) : Bool := decide (1 ≤ x) && decide (x ≤ 1000000000)
theorem idB_true {x : Int} (h1 : 1 ≤ x) (h2 : x ≤ 1000000000) : idB x = true := by simp [idB, h1, h2]
theorem idB_false {x : Int} (h : x < 1 ∨ 1000000000 < x) : idB x = false := by
  unfold idB
  rcases h with h | h
  · rw [decide_eq_false (by omega)]; rfl
  · rw [decide_eq_false (p := x ≤ 1000000000) (by omega)]; simp
theorem idOk_any (x : Int) (w : World) : Calls Try.prog 45 #[.int .i64 x] w fun e w' => e = .returned (.bool (idB x)) ∧ w = w' := by
  by_cases h0 : 1 ≤ x
  · by_cases h1 : x ≤ 1000000000
    · go_enter Try.func45, Try.ntmps45
      go_wp2
      go_ret
      exact ⟨ret_bool (idB_true h0 h1).symm, rfl⟩
    · go_enter Try.func45, Try.ntmps45
      go_wp2
      go_ret
      exact ⟨ret_bool (idB_false (by omega)).symm, rfl⟩
  · go_enter Try.func45, Try.ntmps45
    go_wp2
    go_ret
    exact ⟨ret_bool (idB_false (by omega)).symm, rfl⟩

theorem Lk.range {w : World} {b : Nat} {ss : List Sl} {f l r c : Int} (h : Lk w b ss f l r c) (hn : ss.length = 60) : w.rangeAt b 0 (cellsL ss) := fun j v hv => by
  have := news_rd (h.rd hn) j v hv
  rwa [Addr.add_mid] at this

theorem ext4 {ss : List Sl} (hn : ss.length = 60) {k : Nat} (hk : k < 60) : (cellsL ss).toArray.extract (k * 4) (k * 4 + 4) = #[.int .i64 (sl ss k).id, .int .i64 (sl ss k).prev, .int .i64 (sl ss k).next, .bool (sl ss k).used] := by
  have hsz : (cellsL ss).toArray.size = 240 := by rw [List.size_toArray, cellsL_len, hn]
  apply Array.ext_getElem?
  intro i
  rw [Array.getElem?_extract]
  by_cases hi : i < 4
  · rw [if_pos (by rw [hsz]; omega), List.getElem?_toArray, cellsL_at ss k i (by omega) hi]
    have : i = 0 ∨ i = 1 ∨ i = 2 ∨ i = 3 := by omega
    rcases this with rfl | rfl | rfl | rfl <;> rfl
  · rw [if_neg (by rw [hsz]; omega), Array.getElem?_eq_none (by simp; omega)]

theorem infoSlots : (Try.prog.info? 52).map (·.size) = some 240 := by kernel_rfl

theorem index_slots {ss : List Sl} (hn : ss.length = 60) {k : Nat} (hk : k < 60) (w : World) :
    (Instr.index 52 (.agg (cellsL ss).toArray) (.int .i64 (k : Int))).run Try.prog w = .ok (.agg #[.int .i64 (sl ss k).id, .int .i64 (sl ss k).prev, .int .i64 (sl ss k).next, .bool (sl ss k).used]) w := by
  obtain ⟨i0, hi, hz, hs, _⟩ := info_parts infoSlot
  have he := ext4 hn hk
  simp at he
  simp [Instr.index, asIntOf, Sem.run_bind, run_underlying Try.underlying52, sizeOf, typeInfo, hi, hs, part, he, hk]

/-- Whether all links are in range. -/
def rangeB (ss : List Sl) (f r : Int) : Bool := (ss.all fun s => lnkB s.next) && lnkB f && lnkB r

theorem rangeB_at {ss : List Sl} {k : Nat} (hn : ss.length = 60) (hk : k < 60) (h : lnkB (sl ss k).next = false) (f r : Int) : rangeB ss f r = false := by
  unfold rangeB
  have : (ss.all fun s => lnkB s.next) = false := by
    rw [List.all_eq_false]
    refine ⟨sl ss k, ?_, by rw [h]; simp⟩
    unfold sl
    rw [List.getD_eq_getElem?_getD, List.getElem?_eq_getElem (by omega)]
    exact List.getElem_mem _
  rw [this]; rfl
theorem rangeB_end {ss : List Sl} (hn : ss.length = 60) (h : ∀ k, k < 60 → lnkB (sl ss k).next = true) (f r : Int) : rangeB ss f r = (lnkB f && lnkB r) := by
  unfold rangeB
  have : (ss.all fun s => lnkB s.next) = true := by
    rw [List.all_eq_true]
    intro s hs
    obtain ⟨k, hk, rfl⟩ := List.mem_iff_getElem.1 hs
    have := h k (by omega)
    unfold sl at this
    rwa [List.getD_eq_getElem?_getD, List.getElem?_eq_getElem hk] at this
  rw [this]; simp

set_option maxRecDepth 100000 in
set_option maxHeartbeats 1000000 in
theorem inRange_any (b : Nat) (ss : List Sl) (f l r c : Int) (w : World) (hn : ss.length = 60) (h : Lk w b ss f l r c) :
    Calls Try.prog 65 #[.pointer (some ⟨b, 0, none⟩)] w fun e w' => e = .returned (.bool (rangeB ss f r)) ∧ Below w.heap.size w w' := by
  have HR := Lib.hid (h.range hn)
  have Hsz : Hid ((Try.prog.info? 52).map (·.size) = some (cellsL ss).length) := by show _ = _; rw [infoSlots, cellsL_len, hn]
  have HL := Lib.hid h
  have Hn := Lib.hid hn
  clear h hn
  go_enter Try.func65, Try.ntmps65
  go_wp2_with (refine wpList_load_mid rfl 52 (.tmp 7) rfl b 0 rfl (cellsL ss) _ HR.out Try.underlying52 rfl Hsz.out ?_)
  go_loopw [9] (fun i wr => ∃ k : Nat, k ≤ 60 ∧ i = .int .i64 k ∧ (∀ j, j < k → lnkB (sl ss j).next = true) ∧ Below w.heap.size w wr) (fun i _ => 60 - (intOf i).toNat)
  case atStart => exact ⟨0, Nat.zero_le _, rfl, fun j hj => by omega, Below.refl _ _⟩
  case round =>
    obtain ⟨k, hk, rfl, hq, hbw⟩ := hrel
    have Hq := Lib.hid hq
    clear hq
    by_cases hlt : k < 60
    · have hix := index_slots Hn.out hlt
      have hL := HL.out.below hbw
      obtain ⟨s, hs⟩ : ∃ s, sl ss k = s := ⟨_, rfl⟩
      rw [hs] at hix
      have Hs := Lib.hid hs
      clear hs hL
      cases hb : lnkB s.next
      · have Hb := Lib.hid hb
        clear hb
        go_wp2_with fail
        refine (linkOk_any _ _).mono ?_
        rintro e w' ⟨rfl, rfl⟩
        rw [Hb.out]
        go_wp2
        go_ret
        exact ⟨ret_bool (rangeB_at Hn.out hlt (by rw [Hs.out]; exact Hb.out) f r).symm, hbw.alloc hbw.size _⟩
      · have Hb := Lib.hid hb
        clear hb
        go_wp2_with fail
        refine (linkOk_any _ _).mono ?_
        rintro e w' ⟨rfl, rfl⟩
        rw [Hb.out]
        go_wp2
        go_roundw
        case rel =>
          refine ⟨k + 1, by omega, by go_num, fun j hj => ?_, hbw.alloc hbw.size _⟩
          by_cases e : j = k
          · subst e; rw [Hs.out]; exact Hb.out
          · exact Hq.out j (by omega)
        case measure => simp [intOf]; omega
    · obtain rfl : k = 60 := by omega
      have He := Lib.hid (rangeB_end Hn.out Hq.out f r)
      obtain ⟨n0, _, n2, _, _⟩ := (HL.out.below hbw).nums
      cases h1 : lnkB f
      · have H1 := Lib.hid h1
        clear h1
        go_wp2_with fail
        refine (linkOk_any _ _).mono ?_
        rintro e w' ⟨rfl, rfl⟩
        rw [H1.out]
        go_wp2
        go_ret
        exact ⟨ret_bool (by rw [He.out, H1.out]; rfl), hbw⟩
      · have H1 := Lib.hid h1
        clear h1
        go_wp2_with fail
        refine (linkOk_any _ _).mono ?_
        rintro e w' ⟨rfl, rfl⟩
        rw [H1.out]
        go_wp2_with fail
        refine (linkOk_any _ _).mono ?_
        rintro e w' ⟨rfl, rfl⟩
        go_wp2
        go_ret
        exact ⟨ret_bool (by rw [He.out, H1.out]; rfl), hbw⟩
end Go.Proofs.Ytjbfmagedkmngaa.Que
