/- A new cursor, and what the model draws for chapter 1. -/
import Derived.Test.YtcgmeindiaaokaaDoorDraw1
import Derived.OpenShut
namespace Go.Proofs.YtcgmeindiaaokaaDoor.Draw
open Go.RowKit Base

theorem grown_below {w w' : World} {g : Nat} (h : w.grownBy w' (some g)) {B : Nat} (hB : B ≤ w.heap.size) (hg : B ≤ g) : Below B w w' :=
  ⟨h.os, h.tape, h.output, h.size, fun k hk => h.block k (by omega) (fun e => by injection e; omega)⟩

theorem grown_alloc (w : World) (o : Obj) (row : Option Nat) : w.grownBy (w.alloc o) row := World.grownBy_alloc w o row

theorem Cur.lt {w : World} {g : Nat} {A : Option Addr} {n cap : Nat} {zs : List Int} (h : Cur w g A n cap zs) : g < w.heap.size := by
  obtain ⟨i, hh, C⟩ := h
  rcases Nat.lt_or_ge g w.heap.size with hlt | hge
  · exact hlt
  · have := C.blk
    rw [Array.getElem?_eq_none hge] at this
    cases this

theorem Cur.keep {w w' : World} {g : Nat} {A : Option Addr} {n cap : Nat} {zs : List Int} (h : Cur w g A n cap zs) (hb : Below (g + 1) w w') : Cur w' g A n cap zs := by
  obtain ⟨i, hh, C⟩ := h
  exact ⟨i, hh, (hb.block g (by omega)).trans C.blk, C.bytes.keep (fun b o hlt => hb.cell (by show b < g + 1; omega)), C.len, C.small, C.pos, C.le⟩

theorem Cur.alloc {w : World} {g : Nat} {A : Option Addr} {n cap : Nat} {zs : List Int} (h : Cur w g A n cap zs) (o : Obj) : Cur (w.alloc o) g A n cap zs :=
  h.keep ((bel_alloc w o).mono h.lt)

theorem new_cells (w : World) (xs : List Int) (t : TypeId) (i : Nat) (hi : i < xs.length) : (w.alloc (.cells (xs.map (Value.int .i64)).toArray t)).cell? ⟨w.heap.size, i, none⟩ = some (.int .i64 (xs.getD i 0)) := by
  rw [cell_of_row _ _ i _ t (0, 0) (heap_alloc_new w (.cells (xs.map (Value.int .i64)).toArray t))]
  simp [hi]

theorem bytes_of {w : World} {a : Option Addr} {len cap : Nat} {zs : List Int} (h : IsRow .u8 w a len cap zs) : Bytes w w.heap.size a (zs.take len) := by
  have hl := h.len.2.2
  rcases h with ⟨rfl, rfl, rfl, rfl⟩ | ⟨x, rfl, hl', hm, hz, hcell, hwf⟩
  · exact ⟨fun i hi => by simp at hi, fun hp => by simp at hp⟩
  · refine ⟨fun i hi => ?_, fun hp => ?_⟩
    · have hi' : i < zs.length := by omega
      have hli : i < len := by omega
      have e : (zs.take len).getD i 0 = zs[i] := by simp [List.getD_eq_getElem?_getD, hli, hi']
      rw [e]
      exact bounds_u8 (hwf _ (List.getElem_mem hi'))
    · have hne : 0 < zs.length := by omega
      obtain ⟨b, off, spot⟩ := x
      have h0 := hcell 0 hne
      have hs : spot = none := by simpa [Addr.add] using World.cell?_spot h0
      subst hs
      have ea : ∀ i, (⟨b, off, none⟩ : Addr).add i = ⟨b, off + i, none⟩ := fun i => by
        unfold Addr.add; split
        · next h => subst h; rfl
        · rfl
      refine ⟨b, off, rfl, by have := World.block_lt_of_cell? _ _ h0; rw [ea] at this; exact this, fun i hi => ?_⟩
      have hi' : i < zs.length := by omega
      have hli : i < len := by omega
      have := hcell i hi'
      rw [ea] at this
      rw [this]
      simp [List.getD_eq_getElem?_getD, hli]

def NewCur (w : World) (A : Option Addr) (n cap : Nat) (zs : List Int) (e : Ending) (w' : World) : Prop :=
  e = .returned (.pointer (some ⟨w.heap.size, 0, none⟩)) ∧ Cur w' w.heap.size A n cap zs ∧ Below w.heap.size w w'

theorem cur_new (w : World) {A : Option Addr} {n cap : Nat} {zs : List Int} (hn : zs.length = n) (hs : n ≤ 1048576) (hb : Bytes w w.heap.size A zs) (h : Int) : Cur (w.alloc (.cells #[.slice A n cap, .int .i64 0, .int .i64 h] 79)) w.heap.size A n cap zs :=
  ⟨0, h, heap_alloc_new w _, hb.keep (fun b o hlt => World.cell?_alloc_lt w _ _ hlt), hn, hs, by omega, by omega⟩

set_option maxHeartbeats 800000 in
theorem new_any (A : Option Addr) (n cap : Nat) (zs : List Int) (w : World) (hn : zs.length = n) (hs : n ≤ 1048576) (hb : Bytes w w.heap.size A zs) :
    Calls Tryd.prog 40 #[.slice A n cap] w (NewCur w A n cap zs) := by
  have HB := Lib.hid hb
  have HN := Lib.hid hn
  clear hb hn
  go_enter Tryd.func40, Tryd.ntmps40
  go_wp2
  go_loop [3, 4] (fun h i => ∃ (k : Nat) (v : Int), k ≤ n ∧ i = .int .i64 k ∧ h = .int .i64 v ∧ 0 ≤ v ∧ v ≤ 1073741823) (fun _ i => n - (intOf i).toNat)
  case atStart => exact ⟨0, _, Nat.zero_le _, rfl, rfl, by omega, by omega⟩
  case round =>
    obtain ⟨k, v, hk, rfl, rfl, v0, v1⟩ := hrel
    by_cases hlt : k < n
    · by_cases h4 : k < 4000
      · obtain ⟨b, off, rfl, hlb, hcb⟩ := HB.out.2 (by have := HN.out; omega)
        have hz := HB.out.1 k (by have := HN.out; omega)
        have cz := hcb k (by have := HN.out; omega)
        clear hcb
        generalize zs.getD k 0 = z at hz cz
        obtain ⟨z0, z1⟩ := hz
        have hm := maskBig (v * 149 + z + 11)
        have h4' : ((k : Int)) < 4000 := by omega
        go_wp2
        generalize bits .and .i64 (v * 149 + z + 11) 1073741823 = y at hm ⊢
        go_round
        case rel => exact ⟨k + 1, y, by omega, by go_num, rfl, hm.1, hm.2⟩
        case measure => simp [intOf]; omega
      · have h4' : ¬ ((k : Int) < 4000) := by omega
        go_wp2
        go_ret
        exact ⟨rfl, cur_new w HN.out hs HB.out v, bel_alloc _ _⟩
    · have h4' : ¬ ((k : Int) < (n : Int)) := by omega
      go_wp2
      go_ret
      exact ⟨rfl, cur_new w HN.out hs HB.out v, bel_alloc _ _⟩

set_option maxHeartbeats 800000 in
theorem drawTick_any (g : Nat) (A : Option Addr) (n cap : Nat) (zs : List Int) (w : World) (hc : Cur w g A n cap zs) :
    Calls Tryd.prog 65 #[.pointer (some ⟨g, 0, none⟩)] w (Drawn g A n cap zs w fun x => 0 ≤ x ∧ x ≤ 1000000000) := by
  have HC := Lib.hid hc
  clear hc
  go_enter Tryd.func65, Tryd.ntmps65
  go_wp2_with fail
  refine (below_any g A n cap zs 5000 w HC.out).mono ?_
  rintro e w1 ⟨x, rfl, hx, hc1, hg1⟩
  have H1 := Lib.hid hc1
  obtain ⟨x0, x1⟩ := hx.2 (by omega)
  clear hc1 hx
  go_wp2_with fail
  refine (below_any g A n cap zs 16777216 w1 H1.out).mono ?_
  rintro e w2 ⟨y, rfl, hy, hc2, hg2⟩
  have H2 := Lib.hid hc2
  obtain ⟨y0, y1⟩ := hy.2 (by omega)
  clear hc2 hy
  go_wp2_with fail
  refine (pick_any g A n cap zs w2.heap.size 8 8 [0, 1, 999, 1000, x, y, 1000000000, 999999999] _ (H2.out.alloc _) (by have := H2.out.lt; omega) rfl (by omega) (by omega) (fun i hi => new_cells w2 [0, 1, 999, 1000, x, y, 1000000000, 999999999] _ i hi)).mono ?_
  rintro e w3 ⟨v, rfl, hv, hc3, hg3⟩
  have H3 := Lib.hid hc3
  have HV : Hid (0 ≤ v ∧ v ≤ 1000000000) := by
    simp only [List.mem_cons, List.not_mem_nil, or_false] at hv
    show 0 ≤ v ∧ v ≤ 1000000000
    omega
  clear hc3 hv
  go_wp2
  go_ret
  exact ⟨v, rfl, HV.out, H3.out, grown_then (grown_then (grown_then hg1 hg2) (grown_alloc _ _ _)) hg3⟩

def i64In (x : Int) : Prop := -9223372036854775808 ≤ x ∧ x ≤ 9223372036854775807

set_option maxHeartbeats 800000 in
theorem drawAny_any (g : Nat) (A : Option Addr) (n cap : Nat) (zs : List Int) (w : World) (hc : Cur w g A n cap zs) :
    Calls Tryd.prog 59 #[.pointer (some ⟨g, 0, none⟩)] w (Drawn g A n cap zs w i64In) := by
  have HC := Lib.hid hc
  clear hc
  go_enter Tryd.func59, Tryd.ntmps59
  go_wp2_with fail
  refine (once_any g A n cap zs 10 w HC.out).mono ?_
  rintro e w1 ⟨b, rfl, hc1, hg1⟩
  have H1 := Lib.hid hc1
  clear hc1
  cases b
  · go_wp2_with fail
    refine (drawTick_any g A n cap zs w1 H1.out).mono ?_
    rintro e w2 ⟨v, rfl, hv, hc2, hg2⟩
    have H2 := Lib.hid hc2
    clear hc2
    go_wp2
    go_ret
    exact ⟨v, rfl, ⟨by omega, by omega⟩, H2.out, grown_then hg1 hg2⟩
  · go_wp2_with fail
    refine (pick_any g A n cap zs w1.heap.size 5 5 [-1, 1000000001, -1000000001, 9223372036854775807, -9223372036854775808] _ (H1.out.alloc _) (by have := H1.out.lt; omega) rfl (by omega) (by omega) (fun i hi => new_cells w1 [-1, 1000000001, -1000000001, 9223372036854775807, -9223372036854775808] _ i hi)).mono ?_
    rintro e w3 ⟨v, rfl, hv, hc3, hg3⟩
    have H3 := Lib.hid hc3
    have HV : Hid (i64In v) := by
      simp only [List.mem_cons, List.not_mem_nil, or_false] at hv
      show -9223372036854775808 ≤ v ∧ v ≤ 9223372036854775807
      omega
    clear hc3 hv
    go_wp2
    go_ret
    exact ⟨v, rfl, HV.out, H3.out, grown_then (grown_then hg1 (grown_alloc _ _ _)) hg3⟩

def TwoInts (w : World) (e : Ending) (w' : World) : Prop := ∃ a b, e = .returned (.tuple #[.int .i64 a, .int .i64 b]) ∧ i64In a ∧ i64In b ∧ Below w.heap.size w w'


end Go.Proofs.YtcgmeindiaaokaaDoor.Draw
