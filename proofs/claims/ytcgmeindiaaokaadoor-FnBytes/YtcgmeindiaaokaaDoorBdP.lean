/- TakeMost of the program; TakeLog of both. -/
import Derived.Test.YtcgmeindiaaokaaDoorBdO
import Derived.Test.YtcgmeindiaaokaaDoorBdI
namespace Go.Proofs.YtcgmeindiaaokaaDoor.By
open Go.RowKit Go.Deep Base Rw

/-- The program's own errors: where they lie, and that the first is none of the others. -/
structure Snt (pA pN pF : Addr) (w : World) : Prop where
  a : ErA pA w
  n : ErN pN w
  f : ErF pF w
  an : pN ≠ pA
  af : pF ≠ pA
  ha : ∃ c t, w.heap[pA.block]? = some (.cells c t (0, 0))
  hn : ∃ c t, w.heap[pN.block]? = some (.cells c t (0, 0))
  hf : ∃ c t, w.heap[pF.block]? = some (.cells c t (0, 0))
theorem keep_blk {w w' : World} {b : Nat} (h : ∃ c t, w.heap[b]? = some (.cells c t (0, 0))) (hb : Below w.heap.size w w') : ∃ c t, w'.heap[b]? = some (.cells c t (0, 0)) := by
  obtain ⟨c, t, e⟩ := h
  exact ⟨c, t, (hb.block b (Array.getElem?_eq_some_iff.1 e).1).trans e⟩
theorem Snt.below {pA pN pF : Addr} {w w' : World} (h : Snt pA pN pF w) (hb : Below w.heap.size w w') : Snt pA pN pF w' :=
  ⟨h.a.below hb, h.n.below hb, h.f.below hb, h.an, h.af, keep_blk h.ha hb, keep_blk h.hn hb, keep_blk h.hf hb⟩
theorem Snt.is {pA pN pF q : Addr} {w : World} (h : Snt pA pN pF w) (hq : q = pA ∨ q = pN ∨ q = pF) :
    Calls Tryd.prog 36 #[.iface 99 (.pointer (some q)), .iface 99 (.pointer (some pA))] w fun e w' => e = .returned (.bool (decide (q = pA))) ∧ w = w' := by
  obtain ⟨ca, ta, ha⟩ := h.ha
  obtain ⟨cn, tn, hn⟩ := h.hn
  obtain ⟨cf, tf, hf⟩ := h.hf
  rcases hq with rfl | rfl | rfl
  · rw [decide_eq_true rfl]
    exact is_any _ _ _ w (is1_same _ w)
  · rw [decide_eq_false h.an]
    exact is_any _ _ _ w (is1_other _ _ _ _ _ _ w h.an hn ha)
  · rw [decide_eq_false h.af]
    exact is_any _ _ _ w (is1_other _ _ _ _ _ _ w h.af hf ha)

/-- What TakeLog owes. -/
def EndT (w : World) (zs : List Int) (e : Ending) (w' : World) : Prop := ∃ A cap, e = .returned (.tuple #[.slice A ((takeLog zs).getD []).length cap, .bool (takeLog zs).isSome]) ∧ EV w' w.heap.size w'.heap.size A ((takeLog zs).getD []) ∧ Below w.heap.size w w'
theorem EndT.no {w w' : World} {zs : List Int} (h : (most zs).2 ≠ (zs.length : Int)) (hb : Below w.heap.size w w') : EndT w zs (.returned (.tuple #[.slice none 0 0, .bool false])) w' := by
  have e : takeLog zs = none := by unfold takeLog; rw [if_neg h]
  exact ⟨none, 0, by rw [e]; rfl, by rw [e]; exact EV.nil _ _ _ _, hb⟩
theorem EndT.yes {w w' : World} {zs : List Int} {A : Option Addr} {cap : Nat} (h : (most zs).2 = (zs.length : Int)) (hv : EV w' w.heap.size w'.heap.size A (most zs).1) (hb : Below w.heap.size w w') : EndT w zs (.returned (.tuple #[.slice A (most zs).1.length cap, .bool true])) w' := by
  have e : takeLog zs = some (most zs).1 := by unfold takeLog; rw [if_pos h]
  exact ⟨A, cap, by rw [e]; rfl, by rw [e]; exact hv, hb⟩

set_option maxRecDepth 100000 in
set_option maxHeartbeats 1000000 in
theorem implMost_any (A : Option Addr) (n cap : Nat) (zs : List Int) (pA pN pF : Addr) (w : World) (hn : zs.length = n) (hm : n ≤ 1048576) (hcap : n ≤ cap) (hcm : cap ≤ 9223372036854775807) (hb : isB zs) (h : BI w A zs) (hs : Snt pA pN pF w) :
    Calls Tryd.prog 18 #[.slice A n cap] w (EndM w zs) := by
  have HE := Lib.hid (implEvents_any A n cap zs pA pN pF w hn hm hcap hcm hb h hs.a hs.n hs.f)
  clear hn hb h hs
  unfold EndO at HE
  have HM : Hid (∀ A cap w', EV w' w.heap.size w'.heap.size A (most zs).1 → Below w.heap.size w w' → EndM w zs (.returned (.tuple #[.slice A (most zs).1.length cap, .int .i64 (most zs).2])) w') := fun A cap w' h1 h2 => ⟨A, cap, rfl, h1, h2⟩
  generalize (most zs).1 = es at HE HM
  generalize (most zs).2 = m at HE HM
  go_enter Tryd.func18, Tryd.ntmps18
  go_wp2_with fail
  refine HE.out.mono ?_
  rintro e w1 ⟨A1, c1, q, rfl, v1, b1, _⟩
  have V1 := Lib.hid v1
  have B1 := Lib.hid b1
  clear v1 b1
  go_wp2_with fail
  refine bodyPost_ret (v := .tuple #[.slice A1 es.length c1, .int .i64 m]) (by simp [results, Tryd.results18]) rfl ?_
  exact HM.out _ _ _ V1.out B1.out

set_option maxRecDepth 100000 in
set_option maxHeartbeats 1000000 in
theorem implTakeLog_any (A : Option Addr) (n cap : Nat) (zs : List Int) (pA pN pF : Addr) (w : World) (hn : zs.length = n) (hm : n ≤ 1048576) (hcap : n ≤ cap) (hcm : cap ≤ 9223372036854775807) (hb : isB zs) (h : BI w A zs) (hs : Snt pA pN pF w) :
    Calls Tryd.prog 15 #[.slice A n cap] w (EndT w zs) := by
  have HE := Lib.hid (implEvents_any A n cap zs pA pN pF w hn hm hcap hcm hb h hs.a hs.n hs.f)
  have HS := Lib.hid hs
  clear hn hb h hs
  unfold EndO at HE
  have HN : Hid (∀ w', (most zs).2 ≠ (zs.length : Int) → Below w.heap.size w w' → EndT w zs (.returned (.tuple #[.slice none 0 0, .bool false])) w') := fun w' h1 h2 => EndT.no h1 h2
  have HY : Hid (∀ A cap w', (most zs).2 = (zs.length : Int) → EV w' w.heap.size w'.heap.size A (most zs).1 → Below w.heap.size w w' → EndT w zs (.returned (.tuple #[.slice A (most zs).1.length cap, .bool true])) w') := fun A cap w' h1 h2 h3 => EndT.yes h1 h2 h3
  generalize (most zs).1 = es at HE HN HY
  generalize (most zs).2 = m at HE HN HY
  go_enter Tryd.func15, Tryd.ntmps15
  go_wp2_with fail
  refine HE.out.mono ?_
  rintro e w1 ⟨A1, c1, q, rfl, v1, b1, hq⟩
  have V1 := Lib.hid v1
  have B1 := Lib.hid b1
  have S1 := Lib.hid (HS.out.below b1)
  have hq3 : q = pA ∨ q = pN ∨ q = pF := by
    rcases hq with ⟨_, e⟩ | ⟨_, e | e⟩
    · exact .inl e
    · exact .inr (.inl e)
    · exact .inr (.inr e)
  have HIs := Lib.hid (S1.out.is hq3)
  have pa1 : w1.cell? ⟨0, 0, none⟩ = some (.iface 99 (.pointer (some pA))) := S1.out.a
  have HQ : Hid ((m = (zs.length : Int) ∧ decide (q = pA) = true) ∨ (m ≠ (zs.length : Int) ∧ decide (q = pA) = false)) := by
    rcases hq with ⟨h1, e⟩ | ⟨h1, e | e⟩
    · exact .inl ⟨h1, by simp [e]⟩
    · exact .inr ⟨h1, by rw [e]; exact decide_eq_false S1.out.an⟩
    · exact .inr ⟨h1, by rw [e]; exact decide_eq_false S1.out.af⟩
  clear v1 b1 hq hq3 HE HS S1
  go_wp2_with fail
  refine HIs.out.mono ?_
  rintro e _ ⟨rfl, rfl⟩
  rcases HQ.out with ⟨h1, h2⟩ | ⟨h1, h2⟩
  · rw [h2]
    have H1 := Lib.hid h1
    clear h1 h2 HIs HQ
    go_wp2
    refine bodyPost_ret (v := .tuple #[.slice A1 es.length c1, .bool true]) (by simp [results, Tryd.results15]) rfl ?_
    exact HY.out _ _ _ H1.out V1.out B1.out
  · rw [h2]
    have H1 := Lib.hid h1
    clear h1 h2 HIs HQ
    go_wp2
    refine bodyPost_ret (v := .tuple #[.slice none 0 0, .bool false]) (by simp [results, Tryd.results15]) rfl ?_
    exact HN.out _ H1.out B1.out

set_option maxRecDepth 100000 in
set_option maxHeartbeats 1000000 in
theorem specTakeLog_any (A : Option Addr) (n cap : Nat) (zs : List Int) (w : World) (hn : zs.length = n) (hm : n ≤ 1048576) (hb : isB zs) (h : BI w A zs) :
    Calls Tryd.prog 26 #[.slice A n cap] w (EndT w zs) := by
  have HE := Lib.hid (specMost_any A n cap zs w hn hm hb h)
  have Hn := Lib.hid hn
  clear hn hb h
  unfold EndM at HE
  have HN : Hid (∀ w', (most zs).2 ≠ (zs.length : Int) → Below w.heap.size w w' → EndT w zs (.returned (.tuple #[.slice none 0 0, .bool false])) w') := fun w' h1 h2 => EndT.no h1 h2
  have HY : Hid (∀ A cap w', (most zs).2 = (zs.length : Int) → EV w' w.heap.size w'.heap.size A (most zs).1 → Below w.heap.size w w' → EndT w zs (.returned (.tuple #[.slice A (most zs).1.length cap, .bool true])) w') := fun A cap w' h1 h2 h3 => EndT.yes h1 h2 h3
  generalize (most zs).1 = es at HE HN HY
  generalize (most zs).2 = m at HE HN HY
  by_cases hml : m = (n : Int)
  · have HY' := Lib.hid (fun A cap w' => HY.out A cap w' (by rw [Hn.out]; exact hml))
    have hml' : (m != (n : Int)) = false := by simp [hml]
    clear HN HY
    go_enter Tryd.func26, Tryd.ntmps26
    go_wp2_with fail
    refine HE.out.mono ?_
    rintro e w1 ⟨A1, c1, rfl, v1, b1⟩
    have V1 := Lib.hid v1
    have B1 := Lib.hid b1
    clear v1 b1
    go_wp2
    refine bodyPost_ret (v := .tuple #[.slice A1 es.length c1, .bool true]) (by simp [results, Tryd.results26]) rfl ?_
    exact HY'.out _ _ _ V1.out B1.out
  · have HN' := Lib.hid (fun w' => HN.out w' (by rw [Hn.out]; exact hml))
    have hml' : (m != (n : Int)) = true := by simpa using hml
    clear HN HY
    go_enter Tryd.func26, Tryd.ntmps26
    go_wp2_with fail
    refine HE.out.mono ?_
    rintro e w1 ⟨A1, c1, rfl, v1, b1⟩
    have B1 := Lib.hid b1
    clear v1 b1
    go_wp2
    refine bodyPost_ret (v := .tuple #[.slice none 0 0, .bool false]) (by simp [results, Tryd.results26]) rfl ?_
    exact HN'.out _ B1.out
end Go.Proofs.YtcgmeindiaaokaaDoor.By
