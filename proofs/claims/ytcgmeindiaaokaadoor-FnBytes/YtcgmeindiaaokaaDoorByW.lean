/- LogSum, of the program and of the reference: the sum over the bytes of PutLog. -/
import Derived.Test.YtcgmeindiaaokaaDoorByT
namespace Go.Proofs.YtcgmeindiaaokaaDoor.By
open Go.RowKit Go.Deep Base Rw

theorem sumF_drop {s : Int} {b : List Int} {k : Nat} (h : k < b.length) : sumF s (b.drop k) = sumF ((131 * s + b.getD k 0) % 1000003) (b.drop (k + 1)) := by
  rw [List.drop_eq_getElem_cons h, sumF]
  congr 3
  simp [List.getD_eq_getElem?_getD, h]
theorem putL_getD {log : List Ev} (h : (putL log).isSome = true) : ∃ b, putL log = some b ∧ (putL log).getD [] = b ∧ sumL log = sumF 1 b ∧ isB b ∧ b.length ≤ 8000 := by
  cases e : putL log with
  | none => rw [e] at h; cases h
  | some b =>
    refine ⟨b, rfl, rfl, by unfold sumL; rw [e], ?_, (putL_some e).2.2.1⟩
    rw [(putL_some e).1]
    exact cat_bytes log
theorem sumL_no {log : List Ev} (h : (putL log).isSome = false) : sumL log = -1 := by
  cases e : putL log with
  | none => unfold sumL; rw [e]
  | some b => rw [e] at h; cases h

set_option maxRecDepth 100000 in
set_option maxHeartbeats 2000000 in
theorem implSum_any (A : Option Addr) (n cap : Nat) (log : List Ev) (w : World) (hn : log.length = n) (hm : n ≤ 1048576) (h : EI w A log) :
    Calls Tryd.prog 13 #[.slice A n cap] w fun e w' => e = .returned (.int .i64 (sumL log)) ∧ Below w.heap.size w w' := by
  have HP := Lib.hid (implPutLog_any A n cap log w hn hm h)
  clear h hn
  unfold EndL at HP
  cases hok : (putL log).isSome
  · have hs := Lib.hid (sumL_no hok)
    rw [hok] at HP
    generalize (putL log).getD [] = b at HP
    clear hok
    go_enter Tryd.func13, Tryd.ntmps13
    go_wp2_with fail
    refine HP.out.mono ?_
    rintro e w1 ⟨A1, c1, rfl, v, hb⟩
    have Hb := Lib.hid hb
    clear v hb
    go_wp2
    go_ret
    exact ⟨ret_int hs.out.symm, Hb.out⟩
  · obtain ⟨b, _, hb, hs, hB, hl⟩ := putL_getD hok
    rw [hok, hb] at HP
    have Hs := Lib.hid hs
    have HB := Lib.hid hB
    clear hok hb hs hB
    go_enter Tryd.func13, Tryd.ntmps13
    go_wp2_with fail
    refine HP.out.mono ?_
    rintro e w1 ⟨A1, c1, rfl, v, hb⟩
    have Hb := Lib.hid hb
    have V := Lib.hid v.bi
    clear v hb
    go_wp2_with fail
    go_loopw [5, 17] (fun v i wr => ∃ (k : Nat) (s : Int), k ≤ b.length ∧ i = .int .i64 k ∧ v = .int .i64 s ∧ 0 ≤ s ∧ s ≤ 1000002 ∧ Hid (sumF s (b.drop k) = sumF 1 b) ∧ w1 = wr) (fun _ i _ => b.length - (intOf i).toNat)
    case atStart => exact ⟨0, 1, Nat.zero_le _, rfl, rfl, by omega, by omega, by show _ = _; simp, rfl⟩
    case round =>
      obtain ⟨k, s, hk, rfl, rfl, s0, s1, Hg, rfl⟩ := hrel
      by_cases hlt : k < b.length
      · obtain ⟨g, off, rfl, hc⟩ := V.out (by omega)
        have hck := hc k hlt
        have hby := HB.out.at hlt
        have Hn := Lib.hid (sumF_drop (s := s) hlt)
        clear hc
        generalize b.getD k 0 = x at hck hby Hn
        obtain ⟨x0, x1⟩ := hby
        go_wp2_with fail
        go_roundw
        case rel => exact ⟨k + 1, _, by omega, by go_num, by go_num, by omega, by omega, by show _ = _; rw [← Hg.out, Hn.out], trivial⟩
        case measure => simp [intOf]; omega
      · obtain rfl : k = b.length := by omega
        have He : Hid (s = sumF 1 b) := by show _ = _; rw [← Hg.out, List.drop_length]; rfl
        go_wp2_with fail
        go_ret
        exact ⟨ret_int (by rw [Hs.out, He.out]), Hb.out⟩

set_option maxRecDepth 100000 in
set_option maxHeartbeats 2000000 in
theorem specSum_any (A : Option Addr) (n cap : Nat) (log : List Ev) (w : World) (hn : log.length = n) (hm : n ≤ 1048576) (h : EI w A log) :
    Calls Tryd.prog 14 #[.slice A n cap] w fun e w' => e = .returned (.int .i64 (sumL log)) ∧ Below w.heap.size w w' := by
  have HP := Lib.hid (specPutLog_any A n cap log w hn hm h)
  clear h hn
  unfold EndL at HP
  cases hok : (putL log).isSome
  · have hs := Lib.hid (sumL_no hok)
    rw [hok] at HP
    generalize (putL log).getD [] = b at HP
    clear hok
    go_enter Tryd.func14, Tryd.ntmps14
    go_wp2_with fail
    refine HP.out.mono ?_
    rintro e w1 ⟨A1, c1, rfl, v, hb⟩
    have Hb := Lib.hid hb
    clear v hb
    go_wp2
    go_ret
    exact ⟨ret_int hs.out.symm, Hb.out⟩
  · obtain ⟨b, _, hb, hs, hB, hl⟩ := putL_getD hok
    rw [hok, hb] at HP
    have Hs := Lib.hid hs
    have HB := Lib.hid hB
    clear hok hb hs hB
    go_enter Tryd.func14, Tryd.ntmps14
    go_wp2_with fail
    refine HP.out.mono ?_
    rintro e w1 ⟨A1, c1, rfl, v, hb⟩
    have Hb := Lib.hid hb
    have V := Lib.hid v.bi
    clear v hb
    go_wp2_with fail
    go_loopw [5, 6] (fun v i wr => ∃ (k : Nat) (s : Int), k ≤ b.length ∧ i = .int .i64 k ∧ v = .int .i64 s ∧ 0 ≤ s ∧ s ≤ 1000002 ∧ Hid (sumF s (b.drop k) = sumF 1 b) ∧ w1 = wr) (fun _ i _ => b.length - (intOf i).toNat)
    case atStart => exact ⟨0, 1, Nat.zero_le _, rfl, rfl, by omega, by omega, by show _ = _; simp, rfl⟩
    case round =>
      obtain ⟨k, s, hk, rfl, rfl, s0, s1, Hg, rfl⟩ := hrel
      by_cases hlt : k < b.length
      · obtain ⟨g, off, rfl, hc⟩ := V.out (by omega)
        have hck := hc k hlt
        have hby := HB.out.at hlt
        have Hn := Lib.hid (sumF_drop (s := s) hlt)
        clear hc
        generalize b.getD k 0 = x at hck hby Hn
        obtain ⟨x0, x1⟩ := hby
        go_wp2_with fail
        go_roundw
        case rel => exact ⟨k + 1, _, by omega, by go_num, by go_num, by omega, by omega, by show _ = _; rw [← Hg.out, Hn.out], trivial⟩
        case measure => simp [intOf]; omega
      · obtain rfl : k = b.length := by omega
        have He : Hid (s = sumF 1 b) := by show _ = _; rw [← Hg.out, List.drop_length]; rfl
        go_wp2_with fail
        go_ret
        exact ⟨ret_int (by rw [Hs.out, He.out]), Hb.out⟩
end Go.Proofs.YtcgmeindiaaokaaDoor.By
