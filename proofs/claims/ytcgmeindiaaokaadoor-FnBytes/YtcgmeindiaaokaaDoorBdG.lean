/- The program's groupsAt. -/
import Derived.Test.YtcgmeindiaaokaaDoorBdC
import Derived.Test.YtcgmeindiaaokaaDoorByP
import Derived.Test.YtcgmeindiaaokaaDoorCfg0
namespace Go.Proofs.YtcgmeindiaaokaaDoor.By
open Go.RowKit Go.Deep Base Rw

/-- The program's own error: nothing is encoded there. -/
def ErN (p : Addr) (w : World) : Prop := w.cell? ⟨2, 0, none⟩ = some (.iface 99 (.pointer (some p)))
theorem ErN.below {p : Addr} {w w' : World} (h : ErN p w) (hb : Below w.heap.size w w') : ErN p w' := (hb.cell (World.block_lt_of_cell? _ _ h)).trans h

/-- What groupsAt owes. -/
def EndG (w : World) (zs : List Int) (at_ : Int) (p : Addr) (e : Ending) (w' : World) : Prop :=
  Below w.heap.size w w' ∧ ((∃ gs A c, grpA zs at_ = some gs ∧ e = .returned (.tuple #[.slice A gs.length c, .nilIface]) ∧ BI w' A gs) ∨ (grpA zs at_ = none ∧ e = .returned (.tuple #[.slice none 0 0, .iface 99 (.pointer (some p))])))

set_option maxRecDepth 100000 in
set_option maxHeartbeats 2000000 in
theorem implGroups_any (A : Option Addr) (n cap : Nat) (zs : List Int) (at_ : Int) (p : Addr) (w : World) (hn : zs.length = n) (hm : n ≤ 1048576) (hcap : n ≤ cap) (hcm : cap ≤ 9223372036854775807) (hb : isB zs) (h : BI w A zs) (hp : ErN p w) (ha0 : -9223372036854775808 ≤ at_) (ha1 : at_ ≤ 9223372036854775807) :
    Calls Tryd.prog 54 #[.slice A n cap, .int .i64 at_] w (EndG w zs at_ p) := by
  have Hn := Lib.hid hn
  have HB := Lib.hid hb
  have HI := Lib.hid h
  have HP := Lib.hid hp
  have hp0 : w.cell? ⟨2, 0, none⟩ = some (.iface 99 (.pointer (some p))) := hp
  clear hn hb h hp
  by_cases hout : at_ < 0 ∨ (n : Int) < at_
  · have He : Hid (grpA zs at_ = none) := grpA_no (by have := Hn.out; omega)
    have hin : Tick.inB at_ 0 n = false := Tick.inB_false hout
    go_enter Tryd.func54, Tryd.ntmps54
    go_wp2_with fail
    refine (Cf.within_any 0 at_ n _).mono ?_
    rw [hin]
    rintro e w1 ⟨rfl, rfl⟩
    go_wp2
    go_region
    all_goals go_wp2
    all_goals (refine bodyPost_ret (v := .tuple #[.slice none 0 0, .iface 99 (.pointer (some p))]) (by simp [results, Tryd.results54]) rfl ?_)
    all_goals exact ⟨(Below.refl _ _).drew, .inr ⟨He.out, rfl⟩⟩
  · obtain ⟨a, rfl⟩ : ∃ a : Nat, at_ = (a : Int) := ⟨at_.toNat, by omega⟩
    have hin : Tick.inB (a : Int) 0 n = true := Tick.inB_true (by omega) (by omega)
    by_cases hend : a = n
    · subst hend
      have He : Hid (grpA zs (a : Int) = none) := (Runs.start zs (a : Int)).grp_out (by omega) (by have := Hn.out; omega) (by simp) (.inr (by have := Hn.out; simp; omega))
      have hm5 : ¬ ((a : Int) + 5 ≤ a) := by omega
      clear HI
      by_cases hcn : cap = a
      all_goals cases A
      all_goals
        go_enter Tryd.func54, Tryd.ntmps54
        go_wp2_with fail
        refine (Cf.within_any 0 a a _).mono ?_
        rw [hin]
        rintro e w1 ⟨rfl, rfl⟩
        go_wp2_with fail
        go_loopw [25] (fun i wr => i = .int .i64 0 ∧ w = wr) (fun _ _ => 0)
        case atStart => exact ⟨rfl, rfl⟩
        case round =>
          obtain ⟨rfl, rfl⟩ := hrel
          go_wp2
          go_region
          all_goals go_wp2
          all_goals (refine bodyPost_ret (v := .tuple #[.slice none 0 0, .iface 99 (.pointer (some p))]) (by simp [results, Tryd.results54]) rfl ?_)
          all_goals exact ⟨(Below.refl _ _).drew, .inr ⟨He.out, rfl⟩⟩
    · obtain ⟨b, off, rfl, hc⟩ := HI.out (by have := Hn.out; omega)
      have Hc := Lib.hid hc
      clear hc HI
      have hca : ¬ (cap = a) := by omega
      by_cases hm5 : (a : Int) + 5 ≤ n
      · go_enter Tryd.func54, Tryd.ntmps54
        go_wp2_with fail
        refine (Cf.within_any 0 a n _).mono ?_
        rw [hin]
        rintro e w1 ⟨rfl, rfl⟩
        go_wp2_with fail
        go_loopw [25] (fun i wr => ∃ (k : Nat) (gs : List Int), k ≤ 5 ∧ i = .int .i64 k ∧ Hid (gs.length = k ∧ Runs zs (a : Int) gs) ∧ w = wr) (fun i _ => 5 - (intOf i).toNat)
        case atStart => exact ⟨0, [], Nat.zero_le _, rfl, ⟨rfl, Runs.start _ _⟩, rfl⟩
        case round =>
          obtain ⟨k, gs, hk, rfl, HG, rfl⟩ := hrel
          by_cases hlt : k < 5
          · have hck : w.cell? ⟨b, off + a + k, none⟩ = some (.int .u8 (zs.getD (a + k) 0)) := by
              rw [Nat.add_assoc]
              exact Hc.out (a + k) (by have := Hn.out; omega)
            have hby := HB.out.at (i := a + k) (by have := Hn.out; omega)
            obtain ⟨v, hv⟩ : ∃ v, zs.getD (a + k) 0 = v := ⟨_, rfl⟩
            rw [hv] at hck hby
            have Hv := Lib.hid hv
            obtain ⟨v0, v1⟩ := hby
            clear hv
            by_cases h128 : v < 128
            · have He : Hid (grpA zs (a : Int) = some (gs ++ [v])) := HG.out.2.grp_stop (by omega) (by have := HG.out.1; have := Hn.out; omega) (by have := HG.out.1; omega) (by rw [HG.out.1]; simpa using Hv.out) h128
              have HV : Hid (BI w (some ⟨b, off + a, none⟩) (gs ++ [v])) := fun _ => ⟨b, off + a, rfl, fun j hj => by
                rw [List.length_append] at hj
                rw [HG.out.2.at (by omega) (by have := HG.out.1; have := Hn.out; omega) (by rw [HG.out.1]; simpa using Hv.out) j (by simpa using hj), Int.toNat_natCast, Nat.add_assoc]
                exact Hc.out (a + j) (by have := HG.out.1; have := Hn.out; simp at hj; omega)⟩
              go_wp2_with fail
              refine bodyPost_ret (v := .tuple #[.slice (some ⟨b, off + a, none⟩) (k + 1) (k + 1), .nilIface]) (by simp [results, Tryd.results54]) rfl ?_
              exact ⟨Below.refl _ _, .inl ⟨gs ++ [v], _, k + 1, He.out, by rw [List.length_append, HG.out.1]; rfl, HV.out⟩⟩
            · have HR := Lib.hid (HG.out.2.snoc (v := v) (by omega) (by have := HG.out.1; have := Hn.out; omega) (by rw [HG.out.1]; simpa using Hv.out) (by omega) v1)
              go_wp2_with fail
              exact ⟨⟨k + 1, gs ++ [v], by omega, by go_num, ⟨by rw [List.length_append, HG.out.1]; rfl, HR.out⟩, trivial⟩, by simp [intOf]; omega⟩
          · obtain rfl : k = 5 := by omega
            have He : Hid (grpA zs (a : Int) = none) := HG.out.2.grp_out (by omega) (by have := Hn.out; omega) (by have := HG.out.1; omega) (by have := HG.out.1; have := Hn.out; omega)
            go_wp2
            go_region
            all_goals go_wp2
            all_goals (refine bodyPost_ret (v := .tuple #[.slice none 0 0, .iface 99 (.pointer (some p))]) (by simp [results, Tryd.results54]) rfl ?_)
            all_goals exact ⟨(Below.refl _ _).drew, .inr ⟨He.out, rfl⟩⟩
      · go_enter Tryd.func54, Tryd.ntmps54
        go_wp2_with fail
        refine (Cf.within_any 0 a n _).mono ?_
        rw [hin]
        rintro e w1 ⟨rfl, rfl⟩
        go_wp2_with fail
        go_loopw [25] (fun i wr => ∃ (k : Nat) (gs : List Int), k ≤ (n - a) ∧ i = .int .i64 k ∧ Hid (gs.length = k ∧ Runs zs (a : Int) gs) ∧ w = wr) (fun i _ => (n - a) - (intOf i).toNat)
        case atStart => exact ⟨0, [], Nat.zero_le _, rfl, ⟨rfl, Runs.start _ _⟩, rfl⟩
        case round =>
          obtain ⟨k, gs, hk, rfl, HG, rfl⟩ := hrel
          by_cases hlt : k < (n - a)
          · have hck : w.cell? ⟨b, off + a + k, none⟩ = some (.int .u8 (zs.getD (a + k) 0)) := by
              rw [Nat.add_assoc]
              exact Hc.out (a + k) (by have := Hn.out; omega)
            have hby := HB.out.at (i := a + k) (by have := Hn.out; omega)
            obtain ⟨v, hv⟩ : ∃ v, zs.getD (a + k) 0 = v := ⟨_, rfl⟩
            rw [hv] at hck hby
            have Hv := Lib.hid hv
            obtain ⟨v0, v1⟩ := hby
            clear hv
            by_cases h128 : v < 128
            · have He : Hid (grpA zs (a : Int) = some (gs ++ [v])) := HG.out.2.grp_stop (by omega) (by have := HG.out.1; have := Hn.out; omega) (by have := HG.out.1; omega) (by rw [HG.out.1]; simpa using Hv.out) h128
              have HV : Hid (BI w (some ⟨b, off + a, none⟩) (gs ++ [v])) := fun _ => ⟨b, off + a, rfl, fun j hj => by
                rw [List.length_append] at hj
                rw [HG.out.2.at (by omega) (by have := HG.out.1; have := Hn.out; omega) (by rw [HG.out.1]; simpa using Hv.out) j (by simpa using hj), Int.toNat_natCast, Nat.add_assoc]
                exact Hc.out (a + j) (by have := HG.out.1; have := Hn.out; simp at hj; omega)⟩
              go_wp2_with fail
              refine bodyPost_ret (v := .tuple #[.slice (some ⟨b, off + a, none⟩) (k + 1) (k + 1), .nilIface]) (by simp [results, Tryd.results54]) rfl ?_
              exact ⟨Below.refl _ _, .inl ⟨gs ++ [v], _, k + 1, He.out, by rw [List.length_append, HG.out.1]; rfl, HV.out⟩⟩
            · have HR := Lib.hid (HG.out.2.snoc (v := v) (by omega) (by have := HG.out.1; have := Hn.out; omega) (by rw [HG.out.1]; simpa using Hv.out) (by omega) v1)
              go_wp2_with fail
              exact ⟨⟨k + 1, gs ++ [v], by omega, by go_num, ⟨by rw [List.length_append, HG.out.1]; rfl, HR.out⟩, trivial⟩, by simp [intOf]; omega⟩
          · obtain rfl : k = (n - a) := by omega
            have He : Hid (grpA zs (a : Int) = none) := HG.out.2.grp_out (by omega) (by have := Hn.out; omega) (by have := HG.out.1; omega) (by have := HG.out.1; have := Hn.out; omega)
            go_wp2
            go_region
            all_goals go_wp2
            all_goals (refine bodyPost_ret (v := .tuple #[.slice none 0 0, .iface 99 (.pointer (some p))]) (by simp [results, Tryd.results54]) rfl ?_)
            all_goals exact ⟨(Below.refl _ _).drew, .inr ⟨He.out, rfl⟩⟩
end Go.Proofs.YtcgmeindiaaokaaDoor.By
