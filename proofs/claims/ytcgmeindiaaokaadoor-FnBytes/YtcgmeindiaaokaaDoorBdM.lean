/- The reference's TakeMost. -/
import Derived.Test.YtcgmeindiaaokaaDoorBdW
namespace Go.Proofs.YtcgmeindiaaokaaDoor.By
open Go.RowKit Go.Deep Base Rw

/-- What TakeMost owes. -/
def EndM (w : World) (zs : List Int) (e : Ending) (w' : World) : Prop := ∃ A cap, e = .returned (.tuple #[.slice A (most zs).1.length cap, .int .i64 (most zs).2]) ∧ EV w' w.heap.size w'.heap.size A (most zs).1 ∧ Below w.heap.size w w'
theorem EndM.of {w wr : World} {v : Value} {zs : List Int} {es : List Ev} {at_ : Int} (h : most zs = (es, at_)) (hst : ESt w.heap.size w wr v es) : EndM w zs (.returned (.tuple #[v, .int .i64 at_])) wr := by
  obtain ⟨A, cap, rfl, hv⟩ := hst.form
  exact ⟨A, cap, by rw [h], by rw [h]; exact hv, hst.old⟩
/-- Between two rounds: what has been read, and what is to come. -/
def Mst (zs : List Int) (es : List Ev) (at_ : Int) : Prop := most zs = (es ++ (mostF (2000 - es.length) zs at_).1, (mostF (2000 - es.length) zs at_).2)
theorem Mst.start {zs : List Int} (h : zs.length ≤ 8000) : Mst zs [] 0 := by unfold Mst most; rw [if_neg (by omega)]; simp
theorem Mst.stop {zs : List Int} {es : List Ev} {at_ : Int} (h : Mst zs es at_) (hn : takeE zs at_ = none ∨ es.length = 2000) : most zs = (es, at_) := by
  unfold Mst at h
  rw [h]
  have : mostF (2000 - es.length) zs at_ = ([], at_) := by
    rcases hn with hn | hn
    · cases 2000 - es.length with
      | zero => rfl
      | succ f => rw [mostF, hn]
    · rw [hn]; rfl
  rw [this]
  simp
theorem Mst.step {zs : List Int} {es : List Ev} {at_ m : Int} {s : Ev} (h : Mst zs es at_) (hl : es.length < 2000) (hs : takeE zs at_ = some (s, m)) : Mst zs (es ++ [s]) m := by
  unfold Mst at h ⊢
  rw [h, show 2000 - es.length = (2000 - (es ++ [s]).length) + 1 by simp; omega, mostF, hs]
  simp
theorem news3 {w : World} {B : Nat} (h : w.heap.size = B) (s : Ev) (t : TypeId) : ∀ j u, ([.int .i64 s.1, .int .i64 s.2.1, .int .i64 s.2.2] : List Value)[j]? = some u → (w.alloc (.cells #[.int .i64 s.1, .int .i64 s.2.1, .int .i64 s.2.2] t)).cell? ((⟨B, 0, none⟩ : Addr).add j) = some u := by
  subst h
  intro j u hj
  rw [Addr.add_mid, Nat.zero_add]
  exact cell_new w [_, _, _] t j u hj

set_option maxRecDepth 100000 in
set_option maxHeartbeats 2000000 in
theorem specMost_any (A : Option Addr) (n cap : Nat) (zs : List Int) (w : World) (hn : zs.length = n) (hm : n ≤ 1048576) (hb : isB zs) (h : BI w A zs) :
    Calls Tryd.prog 31 #[.slice A n cap] w (EndM w zs) := by
  by_cases hbig : 8000 < n
  · have e0 : most zs = ([], 0) := by unfold most; rw [if_pos (by omega)]
    have E0 := Lib.hid e0
    clear e0 h hn hb
    go_enter Tryd.func31, Tryd.ntmps31
    go_wp2_with fail
    refine bodyPost_ret (v := .tuple #[.slice none 0 0, .int .i64 0]) (by simp [results, Tryd.results31]) rfl ?_
    exact EndM.of E0.out (ESt.nil (bel_alloc _ _))
  · obtain ⟨i0, hi0, hz0, hz1, hz2⟩ := info_parts infoE
    have Hi0 := Lib.hid hi0
    have Hz0 := Lib.hid hz0
    have Hz1 := Lib.hid hz1
    have Hz2 := Lib.hid hz2
    have HE : Hid (∀ (i : Int) W, BI W A zs → -9223372036854775808 ≤ i → i ≤ 9223372036854775807 → Calls Tryd.prog 23 #[.slice A n cap, .int .i64 i] W fun e w' => e = .returned (.tuple #[aggE (ansE zs i).1, .int .i64 (ansE zs i).2]) ∧ Below W.heap.size W w') := fun i W h h0 h1 => specTakeE_any A n cap zs i W hn hm hb h h0 h1
    have Hn := Lib.hid hn
    have HI := Lib.hid h
    have HM : Hid (Mst zs [] 0) := Mst.start (by omega)
    clear hi0 hz0 hz1 hz2 hn hb h
    go_enter Tryd.func31, Tryd.ntmps31
    go_wp2_with fail
    go_loopw [4, 5] (fun v i wr => ∃ (u : Value) (es : List Ev) (a : Nat), u = v ∧ i = .int .i64 a ∧ a ≤ n ∧ es.length ≤ 2000 ∧ Hid (Mst zs es a) ∧ ESt w.heap.size w wr u es) (fun _ i _ => n - (intOf i).toNat)
    case atStart => exact ⟨_, [], 0, rfl, rfl, Nat.zero_le _, by simp, HM, ESt.empty (Below.refl _ _) (Nat.le_refl _)⟩
    case round =>
      clear HM
      obtain ⟨u, es, a, rfl, rfl, ha, hl, HM, hst⟩ := hrel
      have Hst := Lib.hid hst
      have z1 : w.heap.size ≤ wr.heap.size := hst.old.size
      obtain ⟨Av, cv, hform, _⟩ := hst.form
      clear hst
      subst hform
      by_cases hlt : a < n
      · by_cases h2k : es.length = 2000
        · have He := Lib.hid (HM.out.stop (.inr h2k))
          have h2k' : ¬ ((es.length : Int) < 2000) := by omega
          clear h2k
          go_wp2_with fail
          refine bodyPost_ret (v := .tuple #[.slice Av es.length cv, .int .i64 a]) (by simp [results, Tryd.results31]) rfl ?_
          exact EndM.of He.out Hst.out
        · have h2k' : (es.length : Int) < 2000 := by omega
          have HE1 := Lib.hid (HE.out (a : Int) wr (HI.out.below Hst.out.old) (by omega) (by omega))
          cases he : takeE zs (a : Int) with
          | none =>
            have He := Lib.hid (HM.out.stop (.inl he))
            rw [ansE_none he] at HE1
            go_wp2_with fail
            refine HE1.out.mono ?_
            rintro e w1 ⟨rfl, b1⟩
            have St1 := Lib.hid (Hst.out.keep z1 (bel_trans b1 (bel_alloc w1 (.cells #[.int .i64 0, .int .i64 0, .int .i64 0] 41))))
            clear b1 Hst HE1 he
            simp only [zE]
            go_wp2_with fail
            refine bodyPost_ret (v := .tuple #[.slice Av es.length cv, .int .i64 a]) (by simp [results, Tryd.results31]) rfl ?_
            exact EndM.of He.out St1.out
          | some p =>
            obtain ⟨⟨s0, s1, s2⟩, m⟩ := p
            have hs := takeE_some he
            have HM2 := Lib.hid (HM.out.step (by omega) he)
            rw [ansE_some he] at HE1
            obtain ⟨k, rfl⟩ : ∃ k : Nat, m = (k : Int) := ⟨m.toNat, by omega⟩
            have hk : k ≤ n := by have := Hn.out; omega
            have hak : a < k := by omega
            have hk0 : ¬ ((k : Int) < 0) := by omega
            clear he hs HM
            go_wp2_with fail
            refine HE1.out.mono ?_
            rintro e w1 ⟨rfl, b1⟩
            have St1 := Lib.hid (Hst.out.keep z1 (bel_trans b1 (bel_alloc w1 (.cells #[.int .i64 s0, .int .i64 s1, .int .i64 s2] 41))))
            have z2 := b1.size
            clear b1 Hst HE1
            go_wp2_with (at_builtin; refine wpList_append_own _ rfl _ _ 24 rfl w.heap.size 41 i0 (.agg #[.int .i64 0, .int .i64 0, .int .i64 0]) 3 24 Tryd.underlying24 Hi0.out Hz0.out Hz1.out Hz2.out rfl (by decide) _ _ _ rfl (St1.out.own.alloc _) ⟨w1.heap.size + 1, 0, none⟩ 1 1 [.int .i64 s0, .int .i64 s1, .int .i64 s2] rfl rfl ?c1h ?c2h ?c3h ?c4h ?c5h ?_)
            case c1h => exact news3 (by simp) (s0, s1, s2) _
            case c2h => simp [Value.oneCell']
            case c3h => unfold maxLen; omega
            case c4h => omega
            case c5h => simp; omega
            · intro v' w4 hown hgr _
              have HQ := Lib.hid (St1.out.step (x := (s0, s1, s2)) (Nat.le_refl _) hown hgr)
              clear hown hgr
              go_wp2
              go_roundw
              case rel => exact ⟨_, _, k, rfl, rfl, hk, by simp; omega, HM2, HQ.out⟩
              case measure => simp [intOf]; omega
      · have He := Lib.hid (HM.out.stop (.inl (takeE_end (by have := Hn.out; omega))))
        go_wp2_with fail
        refine bodyPost_ret (v := .tuple #[.slice Av es.length cv, .int .i64 a]) (by simp [results, Tryd.results31]) rfl ?_
        exact EndM.of He.out Hst.out
end Go.Proofs.YtcgmeindiaaokaaDoor.By
