/- The reference's TakeNumber. -/
import Derived.Test.YtcgmeindiaaokaaDoorBdC
import Derived.Test.YtcgmeindiaaokaaDoorByP
namespace Go.Proofs.YtcgmeindiaaokaaDoor.By
open Go.RowKit Go.Deep Base Rw

set_option maxRecDepth 100000 in
set_option maxHeartbeats 2000000 in
theorem specTakeN_any (A : Option Addr) (n cap : Nat) (zs : List Int) (at_ : Int) (w : World) (hn : zs.length = n) (hm : n ≤ 1048576) (hb : isB zs) (h : BI w A zs) (ha0 : -9223372036854775808 ≤ at_) (ha1 : at_ ≤ 9223372036854775807) :
    Calls Tryd.prog 19 #[.slice A n cap, .int .i64 at_] w fun e w' => e = .returned (.tuple #[.int .i64 (ansN zs at_).1, .int .i64 (ansN zs at_).2]) ∧ w = w' := by
  have Hn := Lib.hid hn
  have HB := Lib.hid hb
  have HI := Lib.hid h
  clear hn hb h
  go_enter Tryd.func19, Tryd.ntmps19
  go_wp2_with fail
  go_loopw [6, 7] (fun x' i' wr => ∃ (i : Nat) (gs : List Int) (x : Int), i ≤ 5 ∧ i' = .int .i64 i ∧ x' = .int .i64 x ∧ Hid (gs.length = i ∧ val gs = x ∧ Runs zs at_ gs) ∧ (i = 0 ∨ 0 ≤ at_ ∧ at_ + i ≤ n) ∧ 0 ≤ x ∧ x < room i ∧ w = wr) (fun _ i _ => 5 - (intOf i).toNat)
  case atStart => exact ⟨0, [], 0, by omega, rfl, rfl, ⟨rfl, rfl, Runs.start _ _⟩, .inl rfl, by omega, by simp [room], rfl⟩
  case round =>
    obtain ⟨i, gs, x, hi, rfl, rfl, HG, hat, hx0, hx1, rfl⟩ := hrel
    by_cases hlt : i < 5
    · by_cases hout : at_ < 0 ∨ (n : Int) ≤ at_ + i
      · have He : Hid (ansN zs at_ = (0, -1)) := ansN_none (HG.out.2.2.out (by have := HG.out.1; omega) (by have := Hn.out; have := HG.out.1; omega))
        by_cases hneg : at_ < 0
        · go_wp2_with fail
          refine bodyPost_ret (v := .tuple #[.int .i64 0, .int .i64 (-1)]) (by simp [results, Tryd.results19]) rfl ?_
          exact ⟨by rw [He.out], rfl⟩
        · have hge : (n : Int) ≤ at_ + i := by omega
          go_wp2_with fail
          refine bodyPost_ret (v := .tuple #[.int .i64 0, .int .i64 (-1)]) (by simp [results, Tryd.results19]) rfl ?_
          exact ⟨by rw [He.out], rfl⟩
      · obtain ⟨b, off, rfl, hc⟩ := HI.out (by have := Hn.out; omega)
        have hck := hc (at_.toNat + i) (by have := Hn.out; omega)
        have hby := HB.out.at (i := at_.toNat + i) (by have := Hn.out; omega)
        have Hv : Hid (zs.getD (at_.toNat + i) 0 = zs.getD (at_.toNat + i) 0) := rfl
        generalize hv : zs.getD (at_.toNat + i) 0 = v at hck hby
        replace Hv := Lib.hid hv
        obtain ⟨v0, v1⟩ := hby
        clear hc hv
        obtain ⟨a, rfl⟩ : ∃ a : Nat, at_ = (a : Int) := ⟨at_.toNat, by omega⟩
        have hck' : w.cell? ⟨b, off + (a + i), none⟩ = some (.int .u8 v) := by simpa using hck
        clear hck
        have h5 : i = 0 ∨ i = 1 ∨ i = 2 ∨ i = 3 ∨ i = 4 := by omega
        rcases h5 with rfl | rfl | rfl | rfl | rfl
        · have hx2 : x < 1 := by simpa [room] using hx1
          clear hx1
          simp only [Nat.add_zero] at hck'
          have HV : Hid (val (gs ++ [v]) = (x + v % 128)) := by
            show _ = _
            rw [val_snoc, HG.out.2.1, HG.out.1]
            simp [room]
          by_cases h128 : 128 ≤ v
          · have HR := Lib.hid (HG.out.2.2.snoc (v := v) (by omega) (by have := HG.out.1; have := Hn.out; omega) (by rw [HG.out.1]; simpa using Hv.out) h128 v1)
            go_wp2_with fail
            exact ⟨⟨1, gs ++ [v], _, by omega, by go_num, rfl, ⟨by rw [List.length_append, HG.out.1]; rfl, HV.out, HR.out⟩, .inr ⟨by omega, by omega⟩, by omega, by simp [room]; omega, trivial⟩, by simp [intOf]⟩
          · have HS := Lib.hid (HG.out.2.2.stop (v := v) (by omega) (by have := HG.out.1; have := Hn.out; omega) (by have := HG.out.1; omega) (by rw [HG.out.1]; simpa using Hv.out) v0 (by omega))
            by_cases hz : v = 0
            · subst hz
              simp only [Int.zero_emod, Int.add_zero] at HV
              cases hk : Tick.isT x
              · have He : Hid (ansN zs (a : Int) = (0, -1)) := ansN_none (by rw [HS.out, if_neg (by rw [HV.out]; intro h; have := h.1; simp [tick_isT, hk] at this)])
                go_wp2_with fail
                refine (Tick.specTickOk_any _ _).mono ?_
                rw [hk]
                rintro e w1 ⟨rfl, rfl⟩
                go_wp2
                refine bodyPost_ret (v := .tuple #[.int .i64 0, .int .i64 (-1)]) (by simp [results, Tryd.results19]) rfl ?_
                exact ⟨by rw [He.out], rfl⟩
              · have He : Hid (ansN zs (a : Int) = (x, (a : Int) + 1)) := by
                  show _ = _
                  unfold ansN
                  rw [HS.out, if_pos ⟨by rw [HV.out]; simp [tick_isT, hk], .inl HG.out.1⟩, HV.out, HG.out.1]
                  simp
                go_wp2_with fail
                refine (Tick.specTickOk_any _ _).mono ?_
                rw [hk]
                rintro e w1 ⟨rfl, rfl⟩
                go_wp2
                refine bodyPost_ret (v := .tuple #[.int .i64 x, .int .i64 ((a : Int) + 1)]) (by simp [results, Tryd.results19]) rfl ?_
                exact ⟨by rw [He.out], rfl⟩
            · skip
              cases hk : Tick.isT (x + v % 128)
              · have He : Hid (ansN zs (a : Int) = (0, -1)) := ansN_none (by rw [HS.out, if_neg (by rw [HV.out]; intro h; have := h.1; simp [tick_isT, hk] at this)])
                go_wp2_with fail
                refine (Tick.specTickOk_any _ _).mono ?_
                rw [hk]
                rintro e w1 ⟨rfl, rfl⟩
                go_wp2
                refine bodyPost_ret (v := .tuple #[.int .i64 0, .int .i64 (-1)]) (by simp [results, Tryd.results19]) rfl ?_
                exact ⟨by rw [He.out], rfl⟩
              · have He : Hid (ansN zs (a : Int) = ((x + v % 128), (a : Int) + 1)) := by
                  show _ = _
                  unfold ansN
                  rw [HS.out, if_pos ⟨by rw [HV.out]; simp [tick_isT, hk], .inl HG.out.1⟩, HV.out, HG.out.1]
                  simp
                go_wp2_with fail
                refine (Tick.specTickOk_any _ _).mono ?_
                rw [hk]
                rintro e w1 ⟨rfl, rfl⟩
                go_wp2
                refine bodyPost_ret (v := .tuple #[.int .i64 (x + v % 128), .int .i64 ((a : Int) + 1)]) (by simp [results, Tryd.results19]) rfl ?_
                exact ⟨by rw [He.out], rfl⟩
        · have hx2 : x < 128 := by simpa [room] using hx1
          clear hx1
          have HV : Hid (val (gs ++ [v]) = (x + v % 128 * 128)) := by
            show _ = _
            rw [val_snoc, HG.out.2.1, HG.out.1]
            simp [room]; omega
          by_cases h128 : 128 ≤ v
          · have HR := Lib.hid (HG.out.2.2.snoc (v := v) (by omega) (by have := HG.out.1; have := Hn.out; omega) (by rw [HG.out.1]; simpa using Hv.out) h128 v1)
            go_wp2_with fail
            exact ⟨⟨2, gs ++ [v], _, by omega, by go_num, rfl, ⟨by rw [List.length_append, HG.out.1]; rfl, HV.out, HR.out⟩, .inr ⟨by omega, by omega⟩, by omega, by simp [room]; omega, trivial⟩, by simp [intOf]⟩
          · have HS := Lib.hid (HG.out.2.2.stop (v := v) (by omega) (by have := HG.out.1; have := Hn.out; omega) (by have := HG.out.1; omega) (by rw [HG.out.1]; simpa using Hv.out) v0 (by omega))
            by_cases hz : v = 0
            · have He : Hid (ansN zs (a : Int) = (0, -1)) := ansN_none (by rw [HS.out, if_neg (by rintro ⟨_, h | h⟩; have := HG.out.1; omega; exact h hz)])
              go_wp2_with fail
              refine bodyPost_ret (v := .tuple #[.int .i64 0, .int .i64 (-1)]) (by simp [results, Tryd.results19]) rfl ?_
              exact ⟨by rw [He.out], rfl⟩
            · skip
              cases hk : Tick.isT (x + v % 128 * 128)
              · have He : Hid (ansN zs (a : Int) = (0, -1)) := ansN_none (by rw [HS.out, if_neg (by rw [HV.out]; intro h; have := h.1; simp [tick_isT, hk] at this)])
                go_wp2_with fail
                refine (Tick.specTickOk_any _ _).mono ?_
                rw [hk]
                rintro e w1 ⟨rfl, rfl⟩
                go_wp2
                refine bodyPost_ret (v := .tuple #[.int .i64 0, .int .i64 (-1)]) (by simp [results, Tryd.results19]) rfl ?_
                exact ⟨by rw [He.out], rfl⟩
              · have He : Hid (ansN zs (a : Int) = ((x + v % 128 * 128), (a : Int) + 1 + 1)) := by
                  show _ = _
                  unfold ansN
                  rw [HS.out, if_pos ⟨by rw [HV.out]; simp [tick_isT, hk], .inr hz⟩, HV.out, HG.out.1]
                  simp
                go_wp2_with fail
                refine (Tick.specTickOk_any _ _).mono ?_
                rw [hk]
                rintro e w1 ⟨rfl, rfl⟩
                go_wp2
                refine bodyPost_ret (v := .tuple #[.int .i64 (x + v % 128 * 128), .int .i64 ((a : Int) + 1 + 1)]) (by simp [results, Tryd.results19]) rfl ?_
                exact ⟨by rw [He.out], rfl⟩
        · have hx2 : x < 16384 := by simpa [room] using hx1
          clear hx1
          have HV : Hid (val (gs ++ [v]) = (x + v % 128 * 16384)) := by
            show _ = _
            rw [val_snoc, HG.out.2.1, HG.out.1]
            simp [room]; omega
          by_cases h128 : 128 ≤ v
          · have HR := Lib.hid (HG.out.2.2.snoc (v := v) (by omega) (by have := HG.out.1; have := Hn.out; omega) (by rw [HG.out.1]; simpa using Hv.out) h128 v1)
            go_wp2_with fail
            exact ⟨⟨3, gs ++ [v], _, by omega, by go_num, rfl, ⟨by rw [List.length_append, HG.out.1]; rfl, HV.out, HR.out⟩, .inr ⟨by omega, by omega⟩, by omega, by simp [room]; omega, trivial⟩, by simp [intOf]⟩
          · have HS := Lib.hid (HG.out.2.2.stop (v := v) (by omega) (by have := HG.out.1; have := Hn.out; omega) (by have := HG.out.1; omega) (by rw [HG.out.1]; simpa using Hv.out) v0 (by omega))
            by_cases hz : v = 0
            · have He : Hid (ansN zs (a : Int) = (0, -1)) := ansN_none (by rw [HS.out, if_neg (by rintro ⟨_, h | h⟩; have := HG.out.1; omega; exact h hz)])
              go_wp2_with fail
              refine bodyPost_ret (v := .tuple #[.int .i64 0, .int .i64 (-1)]) (by simp [results, Tryd.results19]) rfl ?_
              exact ⟨by rw [He.out], rfl⟩
            · skip
              cases hk : Tick.isT (x + v % 128 * 16384)
              · have He : Hid (ansN zs (a : Int) = (0, -1)) := ansN_none (by rw [HS.out, if_neg (by rw [HV.out]; intro h; have := h.1; simp [tick_isT, hk] at this)])
                go_wp2_with fail
                refine (Tick.specTickOk_any _ _).mono ?_
                rw [hk]
                rintro e w1 ⟨rfl, rfl⟩
                go_wp2
                refine bodyPost_ret (v := .tuple #[.int .i64 0, .int .i64 (-1)]) (by simp [results, Tryd.results19]) rfl ?_
                exact ⟨by rw [He.out], rfl⟩
              · have He : Hid (ansN zs (a : Int) = ((x + v % 128 * 16384), (a : Int) + 2 + 1)) := by
                  show _ = _
                  unfold ansN
                  rw [HS.out, if_pos ⟨by rw [HV.out]; simp [tick_isT, hk], .inr hz⟩, HV.out, HG.out.1]
                  simp
                go_wp2_with fail
                refine (Tick.specTickOk_any _ _).mono ?_
                rw [hk]
                rintro e w1 ⟨rfl, rfl⟩
                go_wp2
                refine bodyPost_ret (v := .tuple #[.int .i64 (x + v % 128 * 16384), .int .i64 ((a : Int) + 2 + 1)]) (by simp [results, Tryd.results19]) rfl ?_
                exact ⟨by rw [He.out], rfl⟩
        · have hx2 : x < 2097152 := by simpa [room] using hx1
          clear hx1
          have HV : Hid (val (gs ++ [v]) = (x + v % 128 * 2097152)) := by
            show _ = _
            rw [val_snoc, HG.out.2.1, HG.out.1]
            simp [room]; omega
          by_cases h128 : 128 ≤ v
          · have HR := Lib.hid (HG.out.2.2.snoc (v := v) (by omega) (by have := HG.out.1; have := Hn.out; omega) (by rw [HG.out.1]; simpa using Hv.out) h128 v1)
            go_wp2_with fail
            exact ⟨⟨4, gs ++ [v], _, by omega, by go_num, rfl, ⟨by rw [List.length_append, HG.out.1]; rfl, HV.out, HR.out⟩, .inr ⟨by omega, by omega⟩, by omega, by simp [room]; omega, trivial⟩, by simp [intOf]⟩
          · have HS := Lib.hid (HG.out.2.2.stop (v := v) (by omega) (by have := HG.out.1; have := Hn.out; omega) (by have := HG.out.1; omega) (by rw [HG.out.1]; simpa using Hv.out) v0 (by omega))
            by_cases hz : v = 0
            · have He : Hid (ansN zs (a : Int) = (0, -1)) := ansN_none (by rw [HS.out, if_neg (by rintro ⟨_, h | h⟩; have := HG.out.1; omega; exact h hz)])
              go_wp2_with fail
              refine bodyPost_ret (v := .tuple #[.int .i64 0, .int .i64 (-1)]) (by simp [results, Tryd.results19]) rfl ?_
              exact ⟨by rw [He.out], rfl⟩
            · skip
              cases hk : Tick.isT (x + v % 128 * 2097152)
              · have He : Hid (ansN zs (a : Int) = (0, -1)) := ansN_none (by rw [HS.out, if_neg (by rw [HV.out]; intro h; have := h.1; simp [tick_isT, hk] at this)])
                go_wp2_with fail
                refine (Tick.specTickOk_any _ _).mono ?_
                rw [hk]
                rintro e w1 ⟨rfl, rfl⟩
                go_wp2
                refine bodyPost_ret (v := .tuple #[.int .i64 0, .int .i64 (-1)]) (by simp [results, Tryd.results19]) rfl ?_
                exact ⟨by rw [He.out], rfl⟩
              · have He : Hid (ansN zs (a : Int) = ((x + v % 128 * 2097152), (a : Int) + 3 + 1)) := by
                  show _ = _
                  unfold ansN
                  rw [HS.out, if_pos ⟨by rw [HV.out]; simp [tick_isT, hk], .inr hz⟩, HV.out, HG.out.1]
                  simp
                go_wp2_with fail
                refine (Tick.specTickOk_any _ _).mono ?_
                rw [hk]
                rintro e w1 ⟨rfl, rfl⟩
                go_wp2
                refine bodyPost_ret (v := .tuple #[.int .i64 (x + v % 128 * 2097152), .int .i64 ((a : Int) + 3 + 1)]) (by simp [results, Tryd.results19]) rfl ?_
                exact ⟨by rw [He.out], rfl⟩
        · have hx2 : x < 268435456 := by simpa [room] using hx1
          clear hx1
          have HV : Hid (val (gs ++ [v]) = (x + v % 128 * 268435456)) := by
            show _ = _
            rw [val_snoc, HG.out.2.1, HG.out.1]
            simp [room]; omega
          by_cases h128 : 128 ≤ v
          · have HR := Lib.hid (HG.out.2.2.snoc (v := v) (by omega) (by have := HG.out.1; have := Hn.out; omega) (by rw [HG.out.1]; simpa using Hv.out) h128 v1)
            go_wp2_with fail
            exact ⟨⟨5, gs ++ [v], _, by omega, by go_num, rfl, ⟨by rw [List.length_append, HG.out.1]; rfl, HV.out, HR.out⟩, .inr ⟨by omega, by omega⟩, by omega, by simp [room]; omega, trivial⟩, by simp [intOf]⟩
          · have HS := Lib.hid (HG.out.2.2.stop (v := v) (by omega) (by have := HG.out.1; have := Hn.out; omega) (by have := HG.out.1; omega) (by rw [HG.out.1]; simpa using Hv.out) v0 (by omega))
            by_cases hz : v = 0
            · have He : Hid (ansN zs (a : Int) = (0, -1)) := ansN_none (by rw [HS.out, if_neg (by rintro ⟨_, h | h⟩; have := HG.out.1; omega; exact h hz)])
              go_wp2_with fail
              refine bodyPost_ret (v := .tuple #[.int .i64 0, .int .i64 (-1)]) (by simp [results, Tryd.results19]) rfl ?_
              exact ⟨by rw [He.out], rfl⟩
            · skip
              cases hk : Tick.isT (x + v % 128 * 268435456)
              · have He : Hid (ansN zs (a : Int) = (0, -1)) := ansN_none (by rw [HS.out, if_neg (by rw [HV.out]; intro h; have := h.1; simp [tick_isT, hk] at this)])
                go_wp2_with fail
                refine (Tick.specTickOk_any _ _).mono ?_
                rw [hk]
                rintro e w1 ⟨rfl, rfl⟩
                go_wp2
                refine bodyPost_ret (v := .tuple #[.int .i64 0, .int .i64 (-1)]) (by simp [results, Tryd.results19]) rfl ?_
                exact ⟨by rw [He.out], rfl⟩
              · have He : Hid (ansN zs (a : Int) = ((x + v % 128 * 268435456), (a : Int) + 4 + 1)) := by
                  show _ = _
                  unfold ansN
                  rw [HS.out, if_pos ⟨by rw [HV.out]; simp [tick_isT, hk], .inr hz⟩, HV.out, HG.out.1]
                  simp
                go_wp2_with fail
                refine (Tick.specTickOk_any _ _).mono ?_
                rw [hk]
                rintro e w1 ⟨rfl, rfl⟩
                go_wp2
                refine bodyPost_ret (v := .tuple #[.int .i64 (x + v % 128 * 268435456), .int .i64 ((a : Int) + 4 + 1)]) (by simp [results, Tryd.results19]) rfl ?_
                exact ⟨by rw [He.out], rfl⟩
    · obtain rfl : i = 5 := by omega
      have He : Hid (ansN zs at_ = (0, -1)) := ansN_none (HG.out.2.2.far HG.out.1)
      go_wp2_with fail
      refine bodyPost_ret (v := .tuple #[.int .i64 0, .int .i64 (-1)]) (by simp [results, Tryd.results19]) rfl ?_
      exact ⟨by rw [He.out], rfl⟩
end Go.Proofs.YtcgmeindiaaokaaDoor.By
