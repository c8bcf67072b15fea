/- The program's eventsOf. -/
import Derived.Test.YtcgmeindiaaokaaDoorBdM
namespace Go.Proofs.YtcgmeindiaaokaaDoor.By
open Go.RowKit Go.Deep Base Rw

/-- The program's own error: too much for a log. -/
def ErF (p : Addr) (w : World) : Prop := w.cell? ⟨1, 0, none⟩ = some (.iface 99 (.pointer (some p)))
theorem ErF.below {p : Addr} {w w' : World} (h : ErF p w) (hb : Below w.heap.size w w') : ErF p w' := (hb.cell (World.block_lt_of_cell? _ _ h)).trans h

/-- What eventsOf owes. -/
def EndO (w : World) (zs : List Int) (pA pN pF : Addr) (e : Ending) (w' : World) : Prop :=
  ∃ A cap q, e = .returned (.tuple #[.slice A (most zs).1.length cap, .int .i64 (most zs).2, .iface 99 (.pointer (some q))]) ∧ EV w' w.heap.size w'.heap.size A (most zs).1 ∧ Below w.heap.size w w' ∧
    ((most zs).2 = (zs.length : Int) ∧ q = pA ∨ (most zs).2 ≠ (zs.length : Int) ∧ (q = pN ∨ q = pF))
theorem EndO.of {w wr : World} {v : Value} {zs : List Int} {es : List Ev} {at_ : Int} {pA pN pF q : Addr} (h : most zs = (es, at_)) (hst : ESt w.heap.size w wr v es) (hq : at_ = (zs.length : Int) ∧ q = pA ∨ at_ ≠ (zs.length : Int) ∧ (q = pN ∨ q = pF)) :
    EndO w zs pA pN pF (.returned (.tuple #[v, .int .i64 at_, .iface 99 (.pointer (some q))])) wr := by
  obtain ⟨A, cap, rfl, hv⟩ := hst.form
  exact ⟨A, cap, q, by rw [h], by rw [h]; exact hv, hst.old, by rw [h]; exact hq⟩

set_option maxRecDepth 100000 in
set_option maxHeartbeats 4000000 in
theorem implEvents_any (A : Option Addr) (n cap : Nat) (zs : List Int) (pA pN pF : Addr) (w : World) (hn : zs.length = n) (hm : n ≤ 1048576) (hcap : n ≤ cap) (hcm : cap ≤ 9223372036854775807) (hb : isB zs) (h : BI w A zs) (ha : ErA pA w) (hp : ErN pN w) (hf : ErF pF w) :
    Calls Tryd.prog 35 #[.slice A n cap] w (EndO w zs pA pN pF) := by
  have HF := Lib.hid hf
  have hf0 : w.cell? ⟨1, 0, none⟩ = some (.iface 99 (.pointer (some pF))) := hf
  by_cases hbig : 8000 < n
  · have e0 : most zs = ([], 0) := by unfold most; rw [if_pos (by omega)]
    have E0 := Lib.hid e0
    have HE : Hid ((0 : Int) = (zs.length : Int) ∧ pF = pA ∨ (0 : Int) ≠ (zs.length : Int) ∧ (pF = pN ∨ pF = pF)) := .inr ⟨by omega, .inr rfl⟩
    clear e0 h hn hb ha hp hf
    go_enter Tryd.func35, Tryd.ntmps35
    go_wp2
    go_region
    all_goals go_wp2
    all_goals (refine bodyPost_ret (v := .tuple #[.slice none 0 0, .int .i64 0, .iface 99 (.pointer (some pF))]) (by simp [results, Tryd.results35]) rfl ?_)
    all_goals exact EndO.of E0.out (ESt.nil (Below.refl _ _).drew) (by simpa using HE.out)
  · obtain ⟨i0, hi0, hz0, hz1, hz2⟩ := info_parts infoE
    have Hi0 := Lib.hid hi0
    have Hz0 := Lib.hid hz0
    have Hz1 := Lib.hid hz1
    have Hz2 := Lib.hid hz2
    have HE : Hid (∀ (i : Int) W, BI W A zs → ErA pA W → ErN pN W → -9223372036854775808 ≤ i → i ≤ 9223372036854775807 → Calls Tryd.prog 39 #[.slice A n cap, .int .i64 i] W (EndE W zs i pA pN)) := fun i W h ha hp h0 h1 => implEvent_any A n cap zs i pA pN W hn hm hcap hcm hb h ha hp h0 h1
    have Hn := Lib.hid hn
    have HI := Lib.hid h
    have HA := Lib.hid ha
    have HP := Lib.hid hp
    have HM : Hid (Mst zs [] 0) := Mst.start (by omega)
    clear hi0 hz0 hz1 hz2 hn hb h ha hp hf hf0
    go_enter Tryd.func35, Tryd.ntmps35
    go_wp2_with fail
    go_loopw [5, 6] (fun v i wr => ∃ (u : Value) (es : List Ev) (a : Nat), u = v ∧ i = .int .i64 a ∧ a ≤ n ∧ es.length ≤ 2000 ∧ Hid (Mst zs es a) ∧ ESt w.heap.size w wr u es) (fun _ i _ => n - (intOf i).toNat)
    case atStart => exact ⟨_, [], 0, rfl, rfl, Nat.zero_le _, by simp, HM, ESt.nil (Below.refl _ _)⟩
    case round =>
      clear HM
      obtain ⟨u, es, a, rfl, rfl, ha, hl, HM, hst⟩ := hrel
      have Hst := Lib.hid hst
      have z1 : w.heap.size ≤ wr.heap.size := hst.old.size
      obtain ⟨Av, cv, hform, _⟩ := hst.form
      clear hst
      subst hform
      have HE1 := Lib.hid (HE.out (a : Int) wr (HI.out.below Hst.out.old) (HA.out.below Hst.out.old) (HP.out.below Hst.out.old) (by omega) (by omega))
      go_wp2_with fail
      refine HE1.out.mono ?_
      clear HE1
      rintro e w1 ⟨b1, (⟨⟨s0, s1, s2⟩, m, he, rfl⟩ | ⟨he, hat, rfl⟩ | ⟨he, hat, rfl⟩)⟩
      · have hs := takeE_some he
        obtain ⟨k, rfl⟩ : ∃ k : Nat, m = (k : Int) := ⟨m.toNat, by omega⟩
        have hk : k ≤ n := by have := Hn.out; omega
        have hak : a < k := by omega
        have St1 := Lib.hid (Hst.out.keep z1 (bel_trans b1 (bel_alloc w1 (.cells #[.int .i64 s0, .int .i64 s1, .int .i64 s2] 41))))
        have z2 := b1.size
        clear b1 Hst
        by_cases h2k : es.length = 2000
        · have He := Lib.hid (HM.out.stop (.inr h2k))
          have HQ : Hid ((a : Int) = (zs.length : Int) ∧ pF = pA ∨ (a : Int) ≠ (zs.length : Int) ∧ (pF = pN ∨ pF = pF)) := .inr ⟨by have := Hn.out; omega, .inr rfl⟩
          have h2k' : ((es.length : Int) == 2000) = true := by simp; omega
          have hf1 : (w1.alloc (.cells #[.int .i64 s0, .int .i64 s1, .int .i64 s2] 41)).cell? ⟨1, 0, none⟩ = some (.iface 99 (.pointer (some pF))) := HF.out.below St1.out.old
          clear h2k he hs
          go_wp2_with fail
          refine bodyPost_ret (v := .tuple #[.slice Av es.length cv, .int .i64 a, .iface 99 (.pointer (some pF))]) (by simp [results, Tryd.results35]) rfl ?_
          exact EndO.of He.out St1.out (by simpa using HQ.out)
        · have HM2 := Lib.hid (HM.out.step (by omega) he)
          have h2k' : ((es.length : Int) == 2000) = false := by simp; omega
          clear he hs HM
          go_wp2_with (at_builtin; refine wpList_append_own _ rfl _ _ 24 rfl w.heap.size 41 i0 (.agg #[.int .i64 0, .int .i64 0, .int .i64 0]) 3 24 Tryd.underlying24 Hi0.out Hz0.out Hz1.out Hz2.out rfl (by decide) _ _ _ rfl (St1.out.own.alloc _) ⟨w1.heap.size + 1, 0, none⟩ 1 1 [.int .i64 s0, .int .i64 s1, .int .i64 s2] rfl rfl ?c1h ?c2h ?c3h ?c4h ?c5h ?_)
          case c1h => exact news3 (by simp) (s0, s1, s2) _
          case c2h => simp [Value.oneCell']
          case c3h => unfold maxLen; omega
          case c4h => omega
          case c5h => simp; omega
          · intro v' w4 hown hgr _
            have HQ := Lib.hid (St1.out.step (x := (s0, s1, s2)) (Nat.le_refl _) hown hgr)
            clear hown hgr
            go_wp2
            go_roundw
            case rel => exact ⟨_, _, k, rfl, rfl, hk, by simp; omega, HM2, HQ.out⟩
            case measure => simp [intOf]; omega
      · have He := Lib.hid (HM.out.stop (.inl he))
        have HQ : Hid ((a : Int) = (zs.length : Int) ∧ pA = pA ∨ (a : Int) ≠ (zs.length : Int) ∧ (pA = pN ∨ pA = pF)) := .inl ⟨hat, rfl⟩
        have St1 := Lib.hid (Hst.out.keep z1 (bel_trans b1 (bel_alloc w1 (.cells #[.int .i64 0, .int .i64 0, .int .i64 0] 41))))
        clear b1 Hst he hat HM
        go_wp2_with fail
        refine bodyPost_ret (v := .tuple #[.slice Av es.length cv, .int .i64 a, .iface 99 (.pointer (some pA))]) (by simp [results, Tryd.results35]) rfl ?_
        exact EndO.of He.out St1.out (by simpa using HQ.out)
      · have He := Lib.hid (HM.out.stop (.inl he))
        have HQ : Hid ((a : Int) = (zs.length : Int) ∧ pN = pA ∨ (a : Int) ≠ (zs.length : Int) ∧ (pN = pN ∨ pN = pF)) := .inr ⟨hat, .inl rfl⟩
        have St1 := Lib.hid (Hst.out.keep z1 (bel_trans b1 (bel_alloc w1 (.cells #[.int .i64 0, .int .i64 0, .int .i64 0] 41))))
        clear b1 Hst he hat HM
        go_wp2_with fail
        refine bodyPost_ret (v := .tuple #[.slice Av es.length cv, .int .i64 a, .iface 99 (.pointer (some pN))]) (by simp [results, Tryd.results35]) rfl ?_
        exact EndO.of He.out St1.out (by simpa using HQ.out)
end Go.Proofs.YtcgmeindiaaokaaDoor.By
