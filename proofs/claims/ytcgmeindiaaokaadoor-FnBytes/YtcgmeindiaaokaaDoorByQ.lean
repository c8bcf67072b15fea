/- Room made ahead; several rows of bytes as one new row: slices.Grow, slices.Concat, l01Bytes, l01Join. -/
import Derived.Test.YtcgmeindiaaokaaDoorByP
import Derived.Lib.AppendZeros
namespace Go.Proofs.YtcgmeindiaaokaaDoor.By
open Go.RowKit Go.Deep Base Rw

set_option maxRecDepth 100000 in
set_option maxHeartbeats 1000000 in
theorem grow_any (n : Nat) (w : World) (h0 : 0 < n) (h1 : n ≤ 1000) :
    Calls Tryd.prog 62 #[.slice none 0 0, .int .i64 n] w fun e w' => ∃ v, e = .returned v ∧ BSt w.heap.size w w' v [] := by
  obtain ⟨i0, hi0, hz0, hz1, hz2⟩ := info_parts infoY
  have hrz : ∀ ty, (Builtin.append_ #[22, 3] ty #[.slice none 0 0, .int .i64 n]).run Tryd.prog w = .ok (.slice (some ⟨w.heap.size, 0, none⟩) n (grownCap w n 0 5)) (w.drew.alloc (.cells (Builtin.zeroCells (Value.int .u8 0).cells n ++ Builtin.zeroCells (Value.int .u8 0).cells (grownCap w n 0 5 - n)) 5)) := fun ty =>
    Lib.run_append_nil_zeros w 22 3 ty 5 i0 (.int .u8 0) .i64 .i64 Tryd.underlying22 Tryd.underlying3 hi0 hz0 n h0 (by rw [hz1]; omega) (by omega) (by rw [hz2]; omega)
  have hG1 := grownCap_ge w n 0 5
  have hG2 := grownCap_le_maxLen w n 0 5 (by unfold maxLen; omega)
  generalize grownCap w n 0 5 = G at hrz hG1 hG2
  have hG63 : G ≤ 9223372036854775807 := by unfold maxLen at hG2; omega
  have HR : Hid (BSt w.heap.size w (w.drew.alloc (.cells (Builtin.zeroCells (Value.int .u8 0).cells n ++ Builtin.zeroCells (Value.int .u8 0).cells (G - n)) 5)) (.slice (some ⟨w.heap.size, 0, none⟩) 0 G) []) :=
    ⟨⟨rfl, .inr ⟨w.heap.size, G, _, rfl, Nat.le_refl _, heap_alloc_new w.drew _, Nat.zero_le _, hG2, by simp [size_zeroCells, Value.cells]; omega, by simp⟩⟩, bel_of_drew (bel_alloc w.drew _)⟩
  generalize w.drew.alloc (.cells (Builtin.zeroCells (Value.int .u8 0).cells n ++ Builtin.zeroCells (Value.int .u8 0).cells (G - n)) 5) = W1 at hrz HR
  clear hi0 hz0 hz1 hz2 i0 hG2
  go_enter Tryd.func62, Tryd.ntmps62
  go_wp2_with (at_builtin; refine Lib.wpList_append_run _ rfl _ _ _ _ rfl _ _ rfl rfl _ _ (hrz _) ?_)
  go_ret
  exact ⟨_, rfl, HR.out⟩

/-- The first k of the rows, one after the other. -/
def pre (z : Nat → List Int) : Nat → List Int
  | 0 => []
  | k + 1 => pre z k ++ z k
theorem pre_len (z : Nat → List Int) (m : Nat) : ∀ k, (∀ i, i < k → (z i).length ≤ m) → (pre z k).length ≤ k * m
  | 0, _ => by simp [pre]
  | k + 1, h => by
    have h1 := pre_len z m k (fun i hi => h i (by omega))
    have h2 := h k (by omega)
    rw [pre, List.length_append, Nat.succ_mul]
    omega
theorem map_u8_at {zs : List Int} {j : Nat} {u : Value} (h : (zs.map (Value.int .u8))[j]? = some u) : j < zs.length ∧ u = .int .u8 (zs.getD j 0) := by
  rw [List.getElem?_map] at h
  cases e : zs[j]? with
  | none => rw [e] at h; simp at h
  | some y =>
    rw [e] at h
    simp only [Option.map_some, Option.some.injEq] at h
    refine ⟨(List.getElem?_eq_some_iff.1 e).1, ?_⟩
    rw [List.getD_eq_getElem?_getD, e, ← h]
    rfl

set_option maxRecDepth 100000 in
set_option maxHeartbeats 2000000 in
theorem concat_any (g : Nat) (a : Nat → Option Addr) (c : Nat → Nat) (z : Nat → List Int) (w : World)
    (hc : ∀ i, i < 3 → w.cell? ⟨g, i, none⟩ = some (.slice (a i) (z i).length (c i))) (hz : ∀ i, i < 3 → BI w (a i) (z i)) (h1 : ∀ i, i < 3 → 0 < (z i).length) (h5 : ∀ i, i < 3 → (z i).length ≤ 5) :
    Calls Tryd.prog 50 #[.slice (some ⟨g, 0, none⟩) 3 3] w fun e w' => ∃ v, e = .returned v ∧ BSt w.heap.size w w' v (pre z 3) := by
  obtain ⟨i0, hi0, hz0, hz1, hz2⟩ := info_parts infoY
  have Hi0 := Lib.hid hi0
  have Hz0 := Lib.hid hz0
  have Hz1 := Lib.hid hz1
  have Hz2 := Lib.hid hz2
  have Hc := Lib.hid hc
  have Hz := Lib.hid hz
  have H1 := Lib.hid h1
  have H5 := Lib.hid h5
  have HL : Hid (∀ k, k ≤ 3 → (pre z k).length ≤ 15) := fun k hk => by
    have := pre_len z 5 k (fun i hi => h5 i (by omega))
    omega
  clear hi0 hz0 hz1 hz2 hc hz h1 h5
  go_enter Tryd.func50, Tryd.ntmps50
  go_wp2_with fail
  go_loopw [3, 11] (fun s i wr => ∃ k : Nat, k ≤ 3 ∧ i = .int .i64 k ∧ s = .int .i64 ((pre z k).length : Nat) ∧ w = wr) (fun _ i _ => 3 - (intOf i).toNat)
  case atStart => exact ⟨0, Nat.zero_le _, rfl, rfl, rfl⟩
  case round =>
    obtain ⟨k, hk, rfl, rfl, rfl⟩ := hrel
    have hl := HL.out k hk
    by_cases hlt : k < 3
    · have hck := Hc.out k hlt
      have hl5 := H5.out k hlt
      have Hp : Hid ((pre z (k + 1)).length = (pre z k).length + (z k).length) := by show _ = _; rw [pre, List.length_append]
      go_wp2_with fail
      go_roundw
      case rel => exact ⟨k + 1, by omega, by go_num, by rw [Hp.out]; go_num, trivial⟩
      case measure => simp [intOf]; omega
    · obtain rfl : k = 3 := by omega
      have h3 : 0 < (pre z 3).length := by
        rw [pre, List.length_append]
        have := H1.out 2 (by omega)
        omega
      go_wp2_with fail
      refine (grow_any _ w h3 (by omega)).mono ?_
      rintro e w1 ⟨v, rfl, hst⟩
      have Hst := Lib.hid hst
      have z1 := hst.old.size
      clear hst
      go_wp2_with fail
      go_loopw [6, 27] (fun v' i wx => ∃ (u : Value) (k : Nat), u = v' ∧ k ≤ 3 ∧ i = .int .i64 k ∧ BSt w.heap.size w wx u (pre z k)) (fun _ i _ => 3 - (intOf i).toNat)
      case atStart => exact ⟨_, 0, rfl, Nat.zero_le _, rfl, Hst.out⟩
      case round =>
        clear Hst hl
        obtain ⟨u, k, rfl, hk, rfl, hst⟩ := hrel
        have Hst := Lib.hid hst
        have zs := hst.old.size
        clear hst
        have hl := HL.out k hk
        by_cases hlt : k < 3
        · have hck := (Hst.out.old.cell (World.block_lt_of_cell? _ _ (Hc.out k hlt))).trans (Hc.out k hlt)
          obtain ⟨b, off, ha, hcc⟩ := ((Hz.out k hlt).below Hst.out.old) (H1.out k hlt)
          have Hcc := Lib.hid hcc
          have H5' := Lib.hid (H5.out k hlt)
          clear hcc
          rw [ha] at hck
          clear ha
          go_wp2_with (at_builtin; refine wpList_append_own _ rfl _ _ 22 rfl w.heap.size 5 i0 (.int .u8 0) 1 1 Tryd.underlying22 Hi0.out Hz0.out Hz1.out Hz2.out rfl (by decide) _ _ _ rfl Hst.out.own ⟨b, off, none⟩ (z k).length (c k) ((z k).map (Value.int .u8)) rfl (by simp) ?c1h (map_oneY _) ?c3h ?c4h zs ?_)
          case c1h =>
            intro j u hu
            obtain ⟨hj, rfl⟩ := map_u8_at hu
            rw [Addr.add_mid]
            exact Hcc.out j hj
          case c3h => have := H5'.out; unfold maxLen; omega
          case c4h => have := H5'.out; omega
          · intro v' w4 hown hgr _
            have HQ := Lib.hid (Hst.out.many (Nat.le_refl _) hown hgr)
            clear hown hgr
            go_wp2
            go_roundw
            case rel => exact ⟨_, k + 1, rfl, by omega, by go_num, HQ.out⟩
            case measure => simp [intOf]; omega
        · obtain rfl : k = 3 := by omega
          go_wp2
          go_ret
          exact ⟨_, rfl, Hst.out⟩

set_option maxRecDepth 100000 in
set_option maxHeartbeats 1000000 in
theorem bytes_any (A : Option Addr) (n cap : Nat) (zs : List Int) (w : World) (hn : zs.length = n) (hm : n ≤ 1048576) (h : BI w A zs) :
    Calls Tryd.prog 60 #[.slice A n cap] w fun e w' => ∃ v, e = .returned v ∧ BSt w.heap.size w w' v zs := by
  obtain ⟨i0, hi0, hz0, hz1, hz2⟩ := info_parts infoY
  have Hi0 := Lib.hid hi0
  have Hz0 := Lib.hid hz0
  have Hz1 := Lib.hid hz1
  have Hz2 := Lib.hid hz2
  have Hn := Lib.hid hn
  have HB := Lib.hid h
  clear hi0 hz0 hz1 hz2 hn h
  go_enter Tryd.func60, Tryd.ntmps60
  go_wp2_with fail
  go_loopw [3, 4] (fun v i wr => ∃ (u : Value) (k : Nat) (t : List Int), u = v ∧ k ≤ n ∧ i = .int .i64 k ∧ Hid (t = zs.take k) ∧ BSt w.heap.size w wr u t) (fun _ i _ => n - (intOf i).toNat)
  case atStart => exact ⟨_, 0, [], rfl, Nat.zero_le _, rfl, rfl, BSt.empty w (Nat.le_refl _)⟩
  case round =>
    obtain ⟨u, k, t, rfl, hk, rfl, Ht, hst⟩ := hrel
    have Hst := Lib.hid hst
    have z1 : w.heap.size ≤ wr.heap.size := hst.old.size
    clear hst
    have Hl : Hid (t.length = k) := by show _ = _; have := Hn.out; rw [Ht.out, List.length_take]; omega
    by_cases hlt : k < n
    · obtain ⟨b, off, rfl, hc⟩ := (HB.out.below Hst.out.old) (by have := Hn.out; omega)
      have hck := hc k (by have := Hn.out; omega)
      have Hs : Hid (t ++ [zs.getD k 0] = zs.take (k + 1)) := by
        show _ = _
        rw [Ht.out]
        have : k < zs.length := by have := Hn.out; omega
        rw [List.take_add_one]
        simp [this, List.getD_eq_getElem?_getD]
      clear hc
      generalize zs.getD k 0 = y at hck Hs
      go_wp2_with (at_builtin; refine wpList_append_own _ rfl _ _ 22 rfl w.heap.size 5 i0 (.int .u8 0) 1 1 Tryd.underlying22 Hi0.out Hz0.out Hz1.out Hz2.out rfl (by decide) _ _ _ rfl (Hst.out.own.alloc _) ⟨wr.heap.size, 0, none⟩ 1 1 [.int .u8 y] rfl rfl ?c1h ?c2h ?c3h ?c4h ?c5h ?_)
      case c1h => exact new_one_at rfl _ _
      case c2h => simp [Value.oneCell']
      case c3h => have := Hl.out; unfold maxLen; omega
      case c4h => have := Hl.out; omega
      case c5h => first | omega | (simp; omega)
      · intro v' w4 hown hgr _
        have HQ := Lib.hid (Hst.out.step (Nat.le_refl _) hown hgr)
        clear hown hgr
        go_wp2
        go_roundw
        case rel => exact ⟨_, k + 1, _, rfl, by omega, by go_num, Hs, HQ.out⟩
        case measure => simp [intOf]; omega
    · obtain rfl : k = n := by omega
      have Ha : Hid (t = zs) := by show _ = _; rw [Ht.out, ← Hn.out, List.take_length]
      go_wp2
      go_ret
      exact ⟨_, rfl, by rw [Ha.out] at Hst; exact Hst.out⟩

set_option maxRecDepth 100000 in
set_option maxHeartbeats 1000000 in
theorem join_any (A1 A2 : Option Addr) (n1 c1 n2 c2 : Nat) (xs ys : List Int) (w : World) (h1 : xs.length = n1) (h2 : ys.length = n2) (hm1 : n1 ≤ 1000) (hm2 : n2 ≤ 1000) (hx : BI w A1 xs) (hy : BI w A2 ys) :
    Calls Tryd.prog 46 #[.slice A1 n1 c1, .slice A2 n2 c2] w fun e w' => ∃ v, e = .returned v ∧ BSt w.heap.size w w' v (xs ++ ys) := by
  obtain ⟨i0, hi0, hz0, hz1, hz2⟩ := info_parts infoY
  have Hi0 := Lib.hid hi0
  have Hz0 := Lib.hid hz0
  have Hz1 := Lib.hid hz1
  have Hz2 := Lib.hid hz2
  have Hn := Lib.hid h2
  have HB := Lib.hid hy
  have Hn1 : Hid (xs.length ≤ 1000) := by show _ ≤ _; omega
  clear hi0 hz0 hz1 hz2 h2 hy
  go_enter Tryd.func46, Tryd.ntmps46
  go_wp2_with fail
  refine (bytes_any A1 n1 c1 xs w h1 (by omega) hx).mono ?_
  rintro e w1 ⟨v0, rfl, st0⟩
  have St0 := Lib.hid st0
  clear st0 hx h1 hm1
  go_wp2_with fail
  go_loopw [5, 6] (fun v i wr => ∃ (u : Value) (k : Nat) (t : List Int), u = v ∧ k ≤ n2 ∧ i = .int .i64 k ∧ Hid (t = xs ++ ys.take k) ∧ BSt w.heap.size w wr u t) (fun _ i _ => n2 - (intOf i).toNat)
  case atStart => exact ⟨_, 0, xs, rfl, Nat.zero_le _, rfl, by show _ = _; simp, St0.out⟩
  case round =>
    clear St0
    obtain ⟨u, k, t, rfl, hk, rfl, Ht, hst⟩ := hrel
    have Hst := Lib.hid hst
    have z1 : w.heap.size ≤ wr.heap.size := hst.old.size
    clear hst
    have Hl : Hid (t.length = xs.length + k) := by show _ = _; have := Hn.out; rw [Ht.out, List.length_append, List.length_take]; omega
    by_cases hlt : k < n2
    · obtain ⟨b, off, rfl, hc⟩ := (HB.out.below Hst.out.old) (by have := Hn.out; omega)
      have hck := hc k (by have := Hn.out; omega)
      have Hs : Hid (t ++ [ys.getD k 0] = xs ++ ys.take (k + 1)) := by
        show _ = _
        rw [Ht.out]
        have : k < ys.length := by have := Hn.out; omega
        rw [List.take_add_one]
        simp [this, List.getD_eq_getElem?_getD]
      clear hc
      generalize ys.getD k 0 = y at hck Hs
      go_wp2_with (at_builtin; refine wpList_append_own _ rfl _ _ 22 rfl w.heap.size 5 i0 (.int .u8 0) 1 1 Tryd.underlying22 Hi0.out Hz0.out Hz1.out Hz2.out rfl (by decide) _ _ _ rfl (Hst.out.own.alloc _) ⟨wr.heap.size, 0, none⟩ 1 1 [.int .u8 y] rfl rfl ?c1h ?c2h ?c3h ?c4h ?c5h ?_)
      case c1h => exact new_one_at rfl _ _
      case c2h => simp [Value.oneCell']
      case c3h => have := Hl.out; have := Hn1.out; unfold maxLen; omega
      case c4h => have := Hl.out; have := Hn1.out; omega
      case c5h => first | omega | (simp; omega)
      · intro v' w4 hown hgr _
        have HQ := Lib.hid (Hst.out.step (Nat.le_refl _) hown hgr)
        clear hown hgr
        go_wp2
        go_roundw
        case rel => exact ⟨_, k + 1, _, rfl, by omega, by go_num, Hs, HQ.out⟩
        case measure => simp [intOf]; omega
    · obtain rfl : k = n2 := by omega
      have Ha : Hid (t = xs ++ ys) := by show _ = _; rw [Ht.out, ← Hn.out, List.take_length]
      go_wp2
      go_ret
      exact ⟨_, rfl, by rw [Ha.out] at Hst; exact Hst.out⟩
end Go.Proofs.YtcgmeindiaaokaaDoor.By
