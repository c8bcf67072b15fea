/- The law of the channels walked. -/
import Derived.Test.YtoknjofdpnjioaaDoorDre1
import Derived.Test.YtoknjofdpnjioaaDoorCn7
import Derived.Test.YtoknjofdpnjioaaDoorLawC2
import Derived.Test.YtoknjofdpnjioaaDoorRt3
namespace Go.Proofs.YtoknjofdpnjioaaDoor.Cn
open Go.RowKit Go.Deep Base Rw Draw

theorem same_same (A1 A2 : Option Addr) (n c1 c2 : Nat) (zs : List Int) (w : World) (hn : zs.length = n) (hm : n ≤ 1048576) (h1 : Ints w A1 zs) (h2 : Ints w A2 zs) :
    Calls Tryd.prog 14 #[.slice A1 n c1, .slice A2 n c2] w fun e w' => e = .returned (.bool true) ∧ Below w.heap.size w w' := by
  have Hn := Lib.hid hn
  clear hn
  have H1 := Lib.hid h1
  have H2 := Lib.hid h2
  clear h1 h2
  go_enter Tryd.func14, Tryd.ntmps14
  go_wp2
  go_loopw [5] (fun i wr => ∃ k : Nat, k ≤ n ∧ i = .int .i64 k ∧ Below w.heap.size w wr) (fun i _ => n - (intOf i).toNat)
  case atStart => exact ⟨0, Nat.zero_le _, rfl, Below.refl _ _⟩
  case round =>
    obtain ⟨k, hk, rfl, hr⟩ := hrel
    by_cases hlt : k < n
    · obtain ⟨b, off, rfl, hc⟩ := H1.out.below hr (by have := Hn.out; omega)
      have hc1 := hc k (by have := Hn.out; omega)
      clear hc
      obtain ⟨b', off', rfl, hc⟩ := H2.out.below hr (by have := Hn.out; omega)
      have hc2 := hc k (by have := Hn.out; omega)
      clear hc
      generalize zs.getD k 0 = z at hc1 hc2
      go_wp2
      go_region
      all_goals
        go_wp2
        go_roundw
        case rel => exact ⟨k + 1, by omega, by go_num, by repeat (first | exact hr | apply Below.drew)⟩
        case measure => simp [intOf]; omega
    · go_wp2
      go_ret
      exact ⟨rfl, hr⟩

/-- The state behind the first i events of a way. -/
def wayS (f : Int) (l : List Int) : Nat → Int
  | 0 => f
  | i + 1 => go (wayS f l i) (l.getD i 0)

def wayOk (f t : Nat) : Bool :=
  ((shF (t : Int) (f : Int) 5).2 == (decide ((f : Int) ≠ 4) || decide ((t : Int) = (f : Int)))) &&
  ((List.range (shF (t : Int) (f : Int) 5).1.length).all fun i => decide (go (wayS (f : Int) (shF (t : Int) (f : Int) 5).1 i) ((shF (t : Int) (f : Int) 5).1.getD i 0) ≠ wayS (f : Int) (shF (t : Int) (f : Int) 5).1 i)) &&
  (!(shF (t : Int) (f : Int) 5).2 || decide (wayS (f : Int) (shF (t : Int) (f : Int) 5).1 (shF (t : Int) (f : Int) 5).1.length = (t : Int))) &&
  decide ((shF (t : Int) (f : Int) 5).1.length ≤ 4)
theorem way_ok : ∀ f, f < 5 → ∀ t, t < 5 → wayOk f t = true := by decide

theorem way_facts (f t : Int) (hf : isS f = true) (ht : isS t = true) :
    (shA f t).2 = (decide (f ≠ 4) || decide (t = f)) ∧ (∀ i, i < (shA f t).1.length → go (wayS f (shA f t).1 i) ((shA f t).1.getD i 0) ≠ wayS f (shA f t).1 i) ∧
    ((shA f t).2 = true → wayS f (shA f t).1 (shA f t).1.length = t) ∧ (shA f t).1.length ≤ 4 := by
  have e : shA f t = shF t f 5 := by simp [shA, hf, ht]
  obtain ⟨f, rfl⟩ : ∃ n : Nat, f = (n : Int) := ⟨f.toNat, by simp [isS] at hf; omega⟩
  obtain ⟨t, rfl⟩ : ∃ n : Nat, t = (n : Int) := ⟨t.toNat, by simp [isS] at ht; omega⟩
  have h := way_ok f (by simp [isS] at hf; omega) t (by simp [isS] at ht; omega)
  simp only [wayOk, Bool.and_eq_true, decide_eq_true_eq, List.all_eq_true, List.mem_range, beq_iff_eq, Bool.or_eq_true, Bool.not_eq_true'] at h
  rw [e]
  refine ⟨h.1.1.1, h.1.1.2, fun h2 => ?_, h.2⟩
  rcases h.1.2 with h3 | h3
  · rw [h2] at h3; cases h3
  · exact h3

theorem shut_stays : ∀ e, e < 7 → go 4 ((e : Nat) : Int) = 4 := by decide

theorem wat_prefix (es : List Int) (s : Int) (i d : Nat) : ∃ r, watL es s (i + d) = watL es s i ++ r := by
  induction d with
  | zero => exact ⟨[], by simp⟩
  | succ d ih =>
    obtain ⟨r, hr⟩ := ih
    show ∃ r, watL es s (i + d + 1) = _
    simp only [watL]
    split
    · exact ⟨r ++ [((i + d : Nat) : Int)], by rw [hr, List.append_assoc]⟩
    · exact ⟨r, hr⟩
/-- The place of an event that leaves the state among all of them. -/
theorem wat_at (es : List Int) (s : Int) {i n : Nat} (hi : i < n) (h : leaves es s i = true) : (watL es s i).length < (watL es s n).length ∧ (watL es s n).getD (watL es s i).length 0 = (i : Int) := by
  obtain ⟨d, hd⟩ : ∃ d, n = i + 1 + d := ⟨n - (i + 1), by omega⟩
  obtain ⟨r, hr⟩ := wat_prefix es s (i + 1) d
  rw [hd, hr]
  have e : watL es s (i + 1) = watL es s i ++ [(i : Int)] := by simp only [watL, h, if_true]
  rw [e]
  refine ⟨by simp, ?_⟩
  rw [List.getD_eq_getElem?_getD, List.append_assoc, List.getElem?_append_right (Nat.le_refl _), Nat.sub_self]
  rfl

theorem drawPlay_any (A : Option Addr) (n cap : Nat) (zs : List Int) (w : World) (hn : zs.length = n) (hs : n ≤ 1048576) (hb : Bytes w w.heap.size A zs) :
    Calls Tryd.prog 11 #[.slice A n cap] w (DrewEv w) := by
  have H := Lib.hid (drawEv_any A n cap zs w hn hs hb)
  go_enter Tryd.func11, Tryd.ntmps11
  go_wp2_with fail
  refine H.out.mono ?_
  rintro e w1 ⟨A', c', es, rfl, h1, h2, h3⟩
  go_wp2
  go_ret
  exact ⟨A', c', es, rfl, h1, h2, h3⟩

/-- How many events are played. -/
def few (es : List Int) : Nat := if 300 < es.length then 0 else es.length
theorem few_play (es : List Int) : playR es = playL es (few es) := by
  unfold playR few
  split
  · rfl
  · rfl
theorem few_wat (es : List Int) {s : Int} (hs : isS s = true) : watR es s = watL es s (few es) := by
  unfold watR few
  by_cases h : 300 < es.length
  · rw [if_pos (.inl h), if_pos h]; rfl
  · rw [if_neg (by simp [h, hs]), if_neg h]
theorem few_le (es : List Int) : few es ≤ 300 := by
  unfold few
  split <;> omega

set_option maxRecDepth 100000 in
set_option maxHeartbeats 4000000 in
theorem lawChannels (A : Option Addr) (n cap : Nat) (zs : List Int) (w : World) (hn : zs.length = n) (hm : n ≤ maxLen) (hb : Bytes w w.heap.size A zs) (hmv : Mvs w) :
    Calls Tryd.prog 3 #[.slice A n cap] w fun e w' => e = .returned (.bool true) ∧ Below w.heap.size w w' := by
  have Hn := Lib.hid hn
  have HB := Lib.hid hb
  have HM := Lib.hid hmv
  have Hm := Lib.hid hm
  clear hn hb hmv hm
  go_enter Tryd.func3, Tryd.ntmps3
  by_cases hbig : 1048576 < n
  · have HBg := Lib.hid (fun W => (show decide (1048576 < n) = true by simp [hbig]) ▸ big_any A n cap W Hm.out)
    go_wp2_with fail
    refine (HBg.out _).mono ?_
    rintro e w' ⟨rfl, rfl⟩
    go_wp2
    go_ret
    exact ⟨rfl, Below.refl _ _⟩
  have HBg := Lib.hid (fun W => (show decide (1048576 < n) = false by simp [hbig]) ▸ big_any A n cap W Hm.out)
  have hs : n ≤ 1048576 := by omega
  have HAt := fun (k : Nat) (hk : k ≤ 1000) W (hb : Below w.heap.size w W) => at_any A n cap zs k hk W w.heap.size Hn.out hs (HB.out.keep fun b o h => hb.cell (p := ⟨b, o, none⟩) h)
  have HAT := Lib.hid HAt
  clear HAt
  go_wp2_with fail
  refine (HBg.out _).mono ?_
  rintro e w' ⟨rfl, rfl⟩
  clear HBg
  go_wp2_with fail
  refine (drawPlay_any A n cap zs w Hn.out hs HB.out).mono ?_
  rintro e w1 ⟨Ae, ce, es, rfl, hI, hl, b1⟩
  have B := Lib.hid b1
  have HI := Lib.hid hI
  clear b1 hI
  have HP := Lib.hid (few_play es)
  have HSP := Lib.hid (specPlay_any Ae es.length ce es w1 rfl HI.out)
  unfold PlayEnd at HSP
  have HIM := Lib.hid (fun W hM hI => implPlay_any Ae es.length ce es W hM rfl hI)
  unfold PlayEnd at HIM
  rw [HP.out] at HSP HIM
  generalize playS es = sn at HSP HIM
  have hfl := few_le es
  obtain ⟨q, hq⟩ : ∃ q, few es = q := ⟨_, rfl⟩
  have HW := fun (s : Int) (h : isS s = true) => few_wat es h
  rw [hq] at HSP HIM hfl
  simp only [hq] at HW
  have HWT := Lib.hid HW
  clear HW hq HP
  rw [play_len] at HSP HIM
  go_wp2_with fail
  refine HSP.out.mono ?_
  rintro e w2 ⟨Aw, cw, rfl, v2, b2⟩
  have VW := Lib.hid v2
  replace HI := Lib.hid (HI.out.below b2)
  replace B := Lib.hid (bel_trans B.out b2)
  clear v2 b2 HSP
  go_wp2_with fail
  refine (HIM.out _ (HM.out.below B.out) HI.out).mono ?_
  rintro e w3 ⟨Ag, cg, rfl, v3, b3⟩
  have VG := Lib.hid v3.ints
  replace VW := Lib.hid (VW.out.ints.below b3)
  replace HI := Lib.hid (HI.out.below b3)
  replace B := Lib.hid (bel_trans B.out b3)
  clear v3 b3 HIM
  go_wp2_with fail
  refine (same_same Ag Aw q cg cw (playL es q) _ (play_len es q) (by omega) VG.out VW.out).mono ?_
  rintro e w4 ⟨rfl, b4⟩
  replace VG := Lib.hid (VG.out.below b4)
  replace HI := Lib.hid (HI.out.below b4)
  replace B := Lib.hid (bel_trans B.out b4)
  clear b4 VW
  go_wp2_with fail
  refine (HAT.out 0 (by omega) _ B.out).mono ?_
  rintro e w' ⟨⟨x0, rfl, x00, x01⟩, rfl⟩
  obtain ⟨f, hf⟩ : ∃ f, x0.tmod 5 = f := ⟨_, rfl⟩
  have hf0 : 0 ≤ f ∧ f < 5 := by rw [← hf, Int.tmod_eq_emod_of_nonneg x00]; omega
  go_wp2_with fail
  refine (HAT.out 1 (by omega) _ B.out).mono ?_
  rintro e w' ⟨⟨x1, rfl, x10, x11⟩, rfl⟩
  obtain ⟨t, ht⟩ : ∃ t, x1.tmod 5 = t := ⟨_, rfl⟩
  have ht0 : 0 ≤ t ∧ t < 5 := by rw [← ht, Int.tmod_eq_emod_of_nonneg x10]; omega
  have hfS : isS f = true := by simp [isS]; omega
  have htS : isS t = true := by simp [isS]; omega
  obtain ⟨w1', w2', w3', w4'⟩ := way_facts f t hfS htS
  have HSh := Lib.hid (fun W hM => implShort_any f t W hM)
  unfold ShEnd at HSh
  have HCa := Lib.hid (fun W hM => implCan_any f t W hM)
  rw [can_same] at HCa
  have HFS := Lib.hid hfS
  have HLf := Lib.hid (HWT.out f hfS)
  generalize (shA f t).1 = way at HSh w2' w3' w4'
  generalize (shA f t).2 = ok at HSh HCa w1' w3'
  have W1 := Lib.hid w1'
  have W2 := Lib.hid w2'
  have W3 := Lib.hid w3'
  clear w1' w2' w3' hfS htS HWT
  go_wp2_with fail
  refine (HSh.out _ (HM.out.below B.out)).mono ?_
  rintro e w5 ⟨Ay, cy, rfl, v5, b5⟩
  have VY := Lib.hid v5.ints
  replace VG := Lib.hid (VG.out.below b5)
  replace HI := Lib.hid (HI.out.below b5)
  replace B := Lib.hid (bel_trans B.out b5)
  clear b5 v5 HSh
  go_wp2_with fail
  refine (HCa.out _ (HM.out.below B.out)).mono ?_
  rintro e w6 ⟨rfl, b6⟩
  replace VY := Lib.hid (VY.out.below b6)
  replace VG := Lib.hid (VG.out.below b6)
  replace HI := Lib.hid (HI.out.below b6)
  replace B := Lib.hid (bel_trans B.out b6)
  clear b6 HCa
  by_cases h4 : f = 4
  · subst h4
    by_cases htf : t = 4
    · subst htf
      obtain rfl : ok = true := by rw [W1.out]; simp
      have hne3 : wayS 4 way way.length = 4 := W3.out rfl
      clear W1 W3
      go_wp2_with fail
      have HN3 := Lib.hid hne3
      clear hne3
      go_loopw [12, 13] (fun s i wr => ∃ (u : Value) (k : Nat), u = s ∧ k ≤ way.length ∧ i = .int .i64 k ∧ u = .int .i64 (wayS 4 way k) ∧ Below w6.heap.size w6 wr) (fun _ i _ => way.length - (intOf i).toNat)
      case atStart => exact ⟨_, 0, rfl, Nat.zero_le _, rfl, rfl, Below.refl _ _⟩
      case round =>
        obtain ⟨u, k, rfl, hk, rfl, rfl, hbr⟩ := hrel
        have HBr := Lib.hid hbr
        clear hbr
        by_cases hlt : k < way.length
        · obtain ⟨gy, oy, rfl, hcy⟩ := VY.out.below HBr.out (by omega)
          have hck := hcy k hlt
          clear hcy
          have hch := W2.out k hlt
          have Hnx : Hid (wayS 4 way (k + 1) = go (wayS 4 way k) (way.getD k 0)) := Lib.hid rfl
          generalize way.getD k 0 = e0 at hck hch Hnx
          generalize wayS 4 way k = s0 at hch Hnx
          have HSt := Lib.hid (fun W hM => implStep_any s0 e0 W hM)
          generalize go s0 e0 = s1 at hch Hnx HSt
          have HSt' := Lib.hid (fun W hM => (show (s1 != s0) = true by simp [hch]) ▸ HSt.out W hM)
          clear HSt hch
          go_wp2_with fail
          refine (HSt'.out _ (HM.out.below (bel_trans B.out HBr.out))).mono ?_
          rintro e w7 ⟨rfl, b7⟩
          replace HBr := Lib.hid (bel_trans HBr.out b7)
          clear b7
          go_wp2_with fail
          go_roundw
          case rel =>
            first
            | exact ⟨_, k + 1, rfl, by omega, by go_num, by rw [Hnx.out], HBr.out⟩
            | (repeat apply Exists.intro
               exact ⟨⟨_, k + 1, rfl, by omega, by go_num, by rw [Hnx.out], HBr.out⟩, rfl⟩)
          case measure => simp [intOf]; omega
        · obtain rfl : k = way.length := by omega
          have hne3 := HN3.out
          go_wp2_with fail
          clear hne3
          replace VG := Lib.hid (VG.out.below HBr.out)
          replace HI := Lib.hid (HI.out.below HBr.out)
          replace B := Lib.hid (bel_trans B.out HBr.out)
          clear HBr VY
          refine (implWatched_any Ae es.length ce es 4 _ (HM.out.below B.out) rfl HI.out).mono ?_
          rintro e w8 ⟨Al, cl, rfl, v8, b8⟩
          rw [HLf.out] at v8 ⊢
          have VL := Lib.hid v8.ints
          replace VG := Lib.hid (VG.out.below b8)
          replace B := Lib.hid (bel_trans B.out b8)
          clear v8 b8 HI
          have hwl := wat_few es 4 q
          have hlq : ((playL es q).length : Nat) = q := play_len es q
          go_wp2_with fail
          go_loopw [17, 18, 19] (fun kk a i wr => ∃ j : Nat, j ≤ q ∧ i = .int .i64 j ∧ kk = .int .i64 ((watL es 4 j).length : Int) ∧ a = .int .i64 (stAt es j) ∧ wr = w8) (fun _ _ i _ => q - (intOf i).toNat)
          case atStart => exact ⟨0, Nat.zero_le _, rfl, rfl, rfl, rfl⟩
          case round =>
            obtain ⟨j, hj, rfl, rfl, rfl, rfl⟩ := hrel
            by_cases hlt2 : j < q
            · obtain ⟨gg, og, rfl, hcg⟩ := VG.out (by rw [play_len]; omega)
              have hcj := hcg j (by rw [play_len]; omega)
              rw [play_at es hlt2] at hcj
              clear hcg
              have Hw1 : Hid (watL es 4 (j + 1) = if (stAt es j == 4) && (stAt es (j + 1) != 4) then watL es 4 j ++ [(j : Int)] else watL es 4 j) := Lib.hid rfl
              have Hwa := Lib.hid (fun h => wat_at es 4 hlt2 h)
              unfold leaves at Hwa
              have hjl := wat_few es 4 j
              generalize hA : stAt es j = a at Hw1 Hwa
              generalize hA' : stAt es (j + 1) = a' at Hw1 Hwa hcj
              have HA' := Lib.hid hA'
              clear hA hA'
              by_cases h1 : a = 4
              · have h1s := h1.symm
                clear h1
                subst h1s
                by_cases h2 : a' = 4
                · have Hx : Hid (watL es 4 (j + 1) = watL es 4 j) := Lib.hid (by rw [Hw1.out, if_neg (by simp [h2])])
                  have h2s := h2.symm
                  clear h2
                  subst h2s
                  go_wp2_with fail
                  go_roundw
                  case rel => exact ⟨j + 1, by omega, by go_num, by rw [Hx.out], by rw [HA'.out], by first | rfl | trivial⟩
                  case measure => simp [intOf]; omega
                · have Hx : Hid (watL es 4 (j + 1) = watL es 4 j ++ [(j : Int)]) := Lib.hid (by rw [Hw1.out, if_pos (by simp [h2])])
                  obtain ⟨hk1, hk2⟩ := Hwa.out (by simp [h2])
                  obtain ⟨gl, ol, rfl, hcl⟩ := VL.out (by omega)
                  have hck := hcl _ hk1
                  rw [hk2] at hck
                  clear hcl Hwa hk2
                  have hlx : (watL es 4 (j + 1)).length = (watL es 4 j).length + 1 := by rw [Hx.out]; simp
                  have Hlx := Lib.hid hlx
                  clear hlx Hx Hw1
                  generalize (watL es 4 j).length = kk at hk1 hck Hlx hjl
                  generalize (watL es 4 q).length = ll at hk1 hwl
                  have hk3 : ¬ (ll : Int) ≤ (kk : Int) := by omega
                  go_wp2_with fail
                  go_roundw
                  case rel => exact ⟨j + 1, by omega, by go_num, by rw [Hlx.out]; go_num, by rw [HA'.out], by first | rfl | trivial⟩
                  case measure => simp [intOf]; omega
              · have Hx : Hid (watL es 4 (j + 1) = watL es 4 j) := Lib.hid (by rw [Hw1.out, if_neg (by simp [h1])])
                go_wp2_with fail
                go_roundw
                case rel => exact ⟨j + 1, by omega, by go_num, by rw [Hx.out], by rw [HA'.out], by first | rfl | trivial⟩
                case measure => simp [intOf]; omega
            · obtain rfl : j = q := by omega
              go_wp2_with fail
              refine (HAT.out 2 (by omega) _ B.out).mono ?_
              rintro e w' ⟨⟨x2, rfl, x20, x21⟩, rfl⟩
              obtain ⟨e7, he7⟩ : ∃ e7 : Nat, x2.tmod 7 = (e7 : Int) := ⟨(x2.tmod 7).toNat, by rw [Int.tmod_eq_emod_of_nonneg x20]; omega⟩
              have he78 : x2.tmod 7 < 7 := by rw [Int.tmod_eq_emod_of_nonneg x20]; omega
              have he77 : e7 < 7 := by omega
              clear he78
              have HS4 := Lib.hid (fun W hM => implStep_any 4 (e7 : Int) W hM)
              rw [shut_stays e7 he77] at HS4
              go_wp2_with fail
              refine (HS4.out _ (HM.out.below B.out)).mono ?_
              rintro e w9 ⟨rfl, b9⟩
              replace B := Lib.hid (bel_trans B.out b9)
              clear b9
              generalize (watL es 4 j).length = ll
              go_wp2
              go_ret
              exact ⟨rfl, B.out⟩
      skip
    · obtain rfl : ok = false := by rw [W1.out, decide_eq_false htf]; simp
      have hne3 : True := trivial
      clear W1 W3
      go_wp2_with fail
      have hb4 : (t == 4) = false := by simp [htf]
      rw [hb4]
      clear htf hb4
      have HN3 := Lib.hid hne3
      clear hne3
      go_loopw [12, 13] (fun s i wr => ∃ (u : Value) (k : Nat), u = s ∧ k ≤ way.length ∧ i = .int .i64 k ∧ u = .int .i64 (wayS 4 way k) ∧ Below w6.heap.size w6 wr) (fun _ i _ => way.length - (intOf i).toNat)
      case atStart => exact ⟨_, 0, rfl, Nat.zero_le _, rfl, rfl, Below.refl _ _⟩
      case round =>
        obtain ⟨u, k, rfl, hk, rfl, rfl, hbr⟩ := hrel
        have HBr := Lib.hid hbr
        clear hbr
        by_cases hlt : k < way.length
        · obtain ⟨gy, oy, rfl, hcy⟩ := VY.out.below HBr.out (by omega)
          have hck := hcy k hlt
          clear hcy
          have hch := W2.out k hlt
          have Hnx : Hid (wayS 4 way (k + 1) = go (wayS 4 way k) (way.getD k 0)) := Lib.hid rfl
          generalize way.getD k 0 = e0 at hck hch Hnx
          generalize wayS 4 way k = s0 at hch Hnx
          have HSt := Lib.hid (fun W hM => implStep_any s0 e0 W hM)
          generalize go s0 e0 = s1 at hch Hnx HSt
          have HSt' := Lib.hid (fun W hM => (show (s1 != s0) = true by simp [hch]) ▸ HSt.out W hM)
          clear HSt hch
          go_wp2_with fail
          refine (HSt'.out _ (HM.out.below (bel_trans B.out HBr.out))).mono ?_
          rintro e w7 ⟨rfl, b7⟩
          replace HBr := Lib.hid (bel_trans HBr.out b7)
          clear b7
          go_wp2_with fail
          go_roundw
          case rel =>
            first
            | exact ⟨_, k + 1, rfl, by omega, by go_num, by rw [Hnx.out], HBr.out⟩
            | (repeat apply Exists.intro
               exact ⟨⟨_, k + 1, rfl, by omega, by go_num, by rw [Hnx.out], HBr.out⟩, rfl⟩)
          case measure => simp [intOf]; omega
        · obtain rfl : k = way.length := by omega
          have hne3 := HN3.out
          go_wp2_with fail
          clear hne3
          replace VG := Lib.hid (VG.out.below HBr.out)
          replace HI := Lib.hid (HI.out.below HBr.out)
          replace B := Lib.hid (bel_trans B.out HBr.out)
          clear HBr VY
          refine (implWatched_any Ae es.length ce es 4 _ (HM.out.below B.out) rfl HI.out).mono ?_
          rintro e w8 ⟨Al, cl, rfl, v8, b8⟩
          rw [HLf.out] at v8 ⊢
          have VL := Lib.hid v8.ints
          replace VG := Lib.hid (VG.out.below b8)
          replace B := Lib.hid (bel_trans B.out b8)
          clear v8 b8 HI
          have hwl := wat_few es 4 q
          have hlq : ((playL es q).length : Nat) = q := play_len es q
          go_wp2_with fail
          go_loopw [17, 18, 19] (fun kk a i wr => ∃ j : Nat, j ≤ q ∧ i = .int .i64 j ∧ kk = .int .i64 ((watL es 4 j).length : Int) ∧ a = .int .i64 (stAt es j) ∧ wr = w8) (fun _ _ i _ => q - (intOf i).toNat)
          case atStart => exact ⟨0, Nat.zero_le _, rfl, rfl, rfl, rfl⟩
          case round =>
            obtain ⟨j, hj, rfl, rfl, rfl, rfl⟩ := hrel
            by_cases hlt2 : j < q
            · obtain ⟨gg, og, rfl, hcg⟩ := VG.out (by rw [play_len]; omega)
              have hcj := hcg j (by rw [play_len]; omega)
              rw [play_at es hlt2] at hcj
              clear hcg
              have Hw1 : Hid (watL es 4 (j + 1) = if (stAt es j == 4) && (stAt es (j + 1) != 4) then watL es 4 j ++ [(j : Int)] else watL es 4 j) := Lib.hid rfl
              have Hwa := Lib.hid (fun h => wat_at es 4 hlt2 h)
              unfold leaves at Hwa
              have hjl := wat_few es 4 j
              generalize hA : stAt es j = a at Hw1 Hwa
              generalize hA' : stAt es (j + 1) = a' at Hw1 Hwa hcj
              have HA' := Lib.hid hA'
              clear hA hA'
              by_cases h1 : a = 4
              · have h1s := h1.symm
                clear h1
                subst h1s
                by_cases h2 : a' = 4
                · have Hx : Hid (watL es 4 (j + 1) = watL es 4 j) := Lib.hid (by rw [Hw1.out, if_neg (by simp [h2])])
                  have h2s := h2.symm
                  clear h2
                  subst h2s
                  go_wp2_with fail
                  go_roundw
                  case rel => exact ⟨j + 1, by omega, by go_num, by rw [Hx.out], by rw [HA'.out], by first | rfl | trivial⟩
                  case measure => simp [intOf]; omega
                · have Hx : Hid (watL es 4 (j + 1) = watL es 4 j ++ [(j : Int)]) := Lib.hid (by rw [Hw1.out, if_pos (by simp [h2])])
                  obtain ⟨hk1, hk2⟩ := Hwa.out (by simp [h2])
                  obtain ⟨gl, ol, rfl, hcl⟩ := VL.out (by omega)
                  have hck := hcl _ hk1
                  rw [hk2] at hck
                  clear hcl Hwa hk2
                  have hlx : (watL es 4 (j + 1)).length = (watL es 4 j).length + 1 := by rw [Hx.out]; simp
                  have Hlx := Lib.hid hlx
                  clear hlx Hx Hw1
                  generalize (watL es 4 j).length = kk at hk1 hck Hlx hjl
                  generalize (watL es 4 q).length = ll at hk1 hwl
                  have hk3 : ¬ (ll : Int) ≤ (kk : Int) := by omega
                  go_wp2_with fail
                  go_roundw
                  case rel => exact ⟨j + 1, by omega, by go_num, by rw [Hlx.out]; go_num, by rw [HA'.out], by first | rfl | trivial⟩
                  case measure => simp [intOf]; omega
              · have Hx : Hid (watL es 4 (j + 1) = watL es 4 j) := Lib.hid (by rw [Hw1.out, if_neg (by simp [h1])])
                go_wp2_with fail
                go_roundw
                case rel => exact ⟨j + 1, by omega, by go_num, by rw [Hx.out], by rw [HA'.out], by first | rfl | trivial⟩
                case measure => simp [intOf]; omega
            · obtain rfl : j = q := by omega
              go_wp2_with fail
              refine (HAT.out 2 (by omega) _ B.out).mono ?_
              rintro e w' ⟨⟨x2, rfl, x20, x21⟩, rfl⟩
              obtain ⟨e7, he7⟩ : ∃ e7 : Nat, x2.tmod 7 = (e7 : Int) := ⟨(x2.tmod 7).toNat, by rw [Int.tmod_eq_emod_of_nonneg x20]; omega⟩
              have he78 : x2.tmod 7 < 7 := by rw [Int.tmod_eq_emod_of_nonneg x20]; omega
              have he77 : e7 < 7 := by omega
              clear he78
              have HS4 := Lib.hid (fun W hM => implStep_any 4 (e7 : Int) W hM)
              rw [shut_stays e7 he77] at HS4
              go_wp2_with fail
              refine (HS4.out _ (HM.out.below B.out)).mono ?_
              rintro e w9 ⟨rfl, b9⟩
              replace B := Lib.hid (bel_trans B.out b9)
              clear b9
              generalize (watL es 4 j).length = ll
              go_wp2
              go_ret
              exact ⟨rfl, B.out⟩
      skip
  · obtain rfl : ok = true := by rw [W1.out]; simp [h4]
    have hne3 : wayS f way way.length = t := W3.out rfl
    clear W1 W3
    go_wp2_with fail
    clear h4
    have HN3 := Lib.hid hne3
    clear hne3
    go_loopw [12, 13] (fun s i wr => ∃ (u : Value) (k : Nat), u = s ∧ k ≤ way.length ∧ i = .int .i64 k ∧ u = .int .i64 (wayS f way k) ∧ Below w6.heap.size w6 wr) (fun _ i _ => way.length - (intOf i).toNat)
    case atStart => exact ⟨_, 0, rfl, Nat.zero_le _, rfl, rfl, Below.refl _ _⟩
    case round =>
      obtain ⟨u, k, rfl, hk, rfl, rfl, hbr⟩ := hrel
      have HBr := Lib.hid hbr
      clear hbr
      by_cases hlt : k < way.length
      · obtain ⟨gy, oy, rfl, hcy⟩ := VY.out.below HBr.out (by omega)
        have hck := hcy k hlt
        clear hcy
        have hch := W2.out k hlt
        have Hnx : Hid (wayS f way (k + 1) = go (wayS f way k) (way.getD k 0)) := Lib.hid rfl
        generalize way.getD k 0 = e0 at hck hch Hnx
        generalize wayS f way k = s0 at hch Hnx
        have HSt := Lib.hid (fun W hM => implStep_any s0 e0 W hM)
        generalize go s0 e0 = s1 at hch Hnx HSt
        have HSt' := Lib.hid (fun W hM => (show (s1 != s0) = true by simp [hch]) ▸ HSt.out W hM)
        clear HSt hch
        go_wp2_with fail
        refine (HSt'.out _ (HM.out.below (bel_trans B.out HBr.out))).mono ?_
        rintro e w7 ⟨rfl, b7⟩
        replace HBr := Lib.hid (bel_trans HBr.out b7)
        clear b7
        go_wp2_with fail
        go_roundw
        case rel =>
          first
          | exact ⟨_, k + 1, rfl, by omega, by go_num, by rw [Hnx.out], HBr.out⟩
          | (repeat apply Exists.intro
             exact ⟨⟨_, k + 1, rfl, by omega, by go_num, by rw [Hnx.out], HBr.out⟩, rfl⟩)
        case measure => simp [intOf]; omega
      · obtain rfl : k = way.length := by omega
        have hne3 := HN3.out
        go_wp2_with fail
        clear hne3
        replace VG := Lib.hid (VG.out.below HBr.out)
        replace HI := Lib.hid (HI.out.below HBr.out)
        replace B := Lib.hid (bel_trans B.out HBr.out)
        clear HBr VY
        refine (implWatched_any Ae es.length ce es f _ (HM.out.below B.out) rfl HI.out).mono ?_
        rintro e w8 ⟨Al, cl, rfl, v8, b8⟩
        rw [HLf.out] at v8 ⊢
        have VL := Lib.hid v8.ints
        replace VG := Lib.hid (VG.out.below b8)
        replace B := Lib.hid (bel_trans B.out b8)
        clear v8 b8 HI
        have hwl := wat_few es f q
        have hlq : ((playL es q).length : Nat) = q := play_len es q
        go_wp2_with fail
        go_loopw [17, 18, 19] (fun kk a i wr => ∃ j : Nat, j ≤ q ∧ i = .int .i64 j ∧ kk = .int .i64 ((watL es f j).length : Int) ∧ a = .int .i64 (stAt es j) ∧ wr = w8) (fun _ _ i _ => q - (intOf i).toNat)
        case atStart => exact ⟨0, Nat.zero_le _, rfl, rfl, rfl, rfl⟩
        case round =>
          obtain ⟨j, hj, rfl, rfl, rfl, rfl⟩ := hrel
          by_cases hlt2 : j < q
          · obtain ⟨gg, og, rfl, hcg⟩ := VG.out (by rw [play_len]; omega)
            have hcj := hcg j (by rw [play_len]; omega)
            rw [play_at es hlt2] at hcj
            clear hcg
            have Hw1 : Hid (watL es f (j + 1) = if (stAt es j == f) && (stAt es (j + 1) != f) then watL es f j ++ [(j : Int)] else watL es f j) := Lib.hid rfl
            have Hwa := Lib.hid (fun h => wat_at es f hlt2 h)
            unfold leaves at Hwa
            have hjl := wat_few es f j
            generalize hA : stAt es j = a at Hw1 Hwa
            generalize hA' : stAt es (j + 1) = a' at Hw1 Hwa hcj
            have HA' := Lib.hid hA'
            clear hA hA'
            by_cases h1 : a = f
            · have h1s := h1.symm
              clear h1
              subst h1s
              by_cases h2 : a' = f
              · have Hx : Hid (watL es f (j + 1) = watL es f j) := Lib.hid (by rw [Hw1.out, if_neg (by simp [h2])])
                have h2s := h2.symm
                clear h2
                subst h2s
                go_wp2_with fail
                go_roundw
                case rel => exact ⟨j + 1, by omega, by go_num, by rw [Hx.out], by rw [HA'.out], by first | rfl | trivial⟩
                case measure => simp [intOf]; omega
              · have Hx : Hid (watL es f (j + 1) = watL es f j ++ [(j : Int)]) := Lib.hid (by rw [Hw1.out, if_pos (by simp [h2])])
                obtain ⟨hk1, hk2⟩ := Hwa.out (by simp [h2])
                obtain ⟨gl, ol, rfl, hcl⟩ := VL.out (by omega)
                have hck := hcl _ hk1
                rw [hk2] at hck
                clear hcl Hwa hk2
                have hlx : (watL es f (j + 1)).length = (watL es f j).length + 1 := by rw [Hx.out]; simp
                have Hlx := Lib.hid hlx
                clear hlx Hx Hw1
                generalize (watL es f j).length = kk at hk1 hck Hlx hjl
                generalize (watL es f q).length = ll at hk1 hwl
                have hk3 : ¬ (ll : Int) ≤ (kk : Int) := by omega
                go_wp2_with fail
                go_roundw
                case rel => exact ⟨j + 1, by omega, by go_num, by rw [Hlx.out]; go_num, by rw [HA'.out], by first | rfl | trivial⟩
                case measure => simp [intOf]; omega
            · have Hx : Hid (watL es f (j + 1) = watL es f j) := Lib.hid (by rw [Hw1.out, if_neg (by simp [h1])])
              go_wp2_with fail
              go_roundw
              case rel => exact ⟨j + 1, by omega, by go_num, by rw [Hx.out], by rw [HA'.out], by first | rfl | trivial⟩
              case measure => simp [intOf]; omega
          · obtain rfl : j = q := by omega
            go_wp2_with fail
            refine (HAT.out 2 (by omega) _ B.out).mono ?_
            rintro e w' ⟨⟨x2, rfl, x20, x21⟩, rfl⟩
            obtain ⟨e7, he7⟩ : ∃ e7 : Nat, x2.tmod 7 = (e7 : Int) := ⟨(x2.tmod 7).toNat, by rw [Int.tmod_eq_emod_of_nonneg x20]; omega⟩
            have he78 : x2.tmod 7 < 7 := by rw [Int.tmod_eq_emod_of_nonneg x20]; omega
            have he77 : e7 < 7 := by omega
            clear he78
            have HS4 := Lib.hid (fun W hM => implStep_any 4 (e7 : Int) W hM)
            rw [shut_stays e7 he77] at HS4
            go_wp2_with fail
            refine (HS4.out _ (HM.out.below B.out)).mono ?_
            rintro e w9 ⟨rfl, b9⟩
            replace B := Lib.hid (bel_trans B.out b9)
            clear b9
            generalize (watL es f j).length = ll
            go_wp2
            go_ret
            exact ⟨rfl, B.out⟩
    skip
end Go.Proofs.YtoknjofdpnjioaaDoor.Cn
