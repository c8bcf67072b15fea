/- The model's l01Parts parts every text at each byte of one kind. -/
import Derived.Test.YtahfmgjchjjlmaaDoorChecked
import Derived.Test.YtahfmgjchjjlmaaDoorBase
import Derived.Laws.AppendOwn
import Derived.Laws.OwnMore
import Derived.OwnWalk
import Derived.Lib.Strings
import Derived.WalkLawsBesides
namespace Go.Proofs.YtahfmgjchjjlmaaDoor.Parts
open Go.RowKit Base

def glue (p : List UInt8) : List (List UInt8) → List (List UInt8)
  | [] => [p]
  | q :: qs => (p ++ q) :: qs
def parts (c : UInt8) : List UInt8 → List (List UInt8)
  | [] => [[]]
  | b :: r => if b = c then [] :: parts c r else glue [b] (parts c r)

theorem parts_ne (c : UInt8) (l : List UInt8) : parts c l ≠ [] := by
  cases l with
  | nil => simp [parts]
  | cons b r =>
    unfold parts
    split
    · simp
    · cases parts c r <;> simp [glue]

theorem glue_nil {x : List (List UInt8)} (h : x ≠ []) : glue [] x = x := by
  cases x with
  | nil => exact absurd rfl h
  | cons q qs => simp [glue]

theorem glue_glue (p q : List UInt8) (x : List (List UInt8)) : glue p (glue q x) = glue (p ++ q) x := by
  cases x <;> simp [glue]

theorem parts_hit (c : UInt8) (l : List UInt8) (i : Nat) (h : i < l.length) (e : l[i] = c) : parts c (l.drop i) = [] :: parts c (l.drop (i + 1)) := by
  rw [List.drop_eq_getElem_cons h]
  conv => lhs; unfold parts
  rw [if_pos e]

theorem parts_miss (c : UInt8) (l : List UInt8) (i : Nat) (h : i < l.length) (e : l[i] ≠ c) : parts c (l.drop i) = glue [l[i]] (parts c (l.drop (i + 1))) := by
  rw [List.drop_eq_getElem_cons h]
  conv => lhs; unfold parts
  rw [if_neg e]

theorem take_snoc (l : List UInt8) (a i : Nat) (ha : a ≤ i) (h : i < l.length) : (l.drop a).take (i - a) ++ [l[i]] = (l.drop a).take (i + 1 - a) := by
  rw [show i + 1 - a = (i - a) + 1 by omega, List.take_succ_eq_append_getElem (by rw [List.length_drop]; omega)]
  congr 2
  rw [List.getElem_drop]
  congr 1
  omega

/-- The strings ss behind i rounds, the last part beginning at a. -/
structure Cut (c : UInt8) (l : List UInt8) (ss : List ByteArray) (a i : Nat) : Prop where
  le : i ≤ l.length + 1
  from_ : a ≤ i
  count : ss.length ≤ i
  some : i ≤ l.length → ss.map (·.data.toList) ++ glue ((l.drop a).take (i - a)) (parts c (l.drop i)) = parts c l
  all : i = l.length + 1 → ss.map (·.data.toList) = parts c l

theorem Cut.start (c : UInt8) (l : List UInt8) : Cut c l [] 0 0 :=
  ⟨by omega, Nat.le_refl _, by simp, fun _ => by simp [glue_nil (parts_ne c l)], fun h => by omega⟩

theorem Cut.hit {c : UInt8} {l : List UInt8} {ss : List ByteArray} {a i : Nat} {p : ByteArray} (h : Cut c l ss a i) (hi : i < l.length) (e : l[i] = c) (hp : p.data.toList = (l.drop a).take (i - a)) : Cut c l (ss ++ [p]) (i + 1) (i + 1) := by
  have hs := h.some (by omega)
  rw [parts_hit c l i hi e] at hs
  refine ⟨by omega, Nat.le_refl _, by simpa using h.count, fun _ => ?_, fun h2 => by omega⟩
  rw [← hs, Nat.sub_self, List.take_zero, glue_nil (parts_ne _ _)]
  simp [glue, hp]

theorem Cut.miss {c : UInt8} {l : List UInt8} {ss : List ByteArray} {a i : Nat} (h : Cut c l ss a i) (hi : i < l.length) (e : l[i] ≠ c) : Cut c l ss a (i + 1) := by
  have hs := h.some (by omega)
  rw [parts_miss c l i hi e, glue_glue, take_snoc l a i h.from_ hi] at hs
  exact ⟨by omega, by have := h.from_; omega, by have := h.count; omega, fun _ => hs, fun h2 => by omega⟩

theorem Cut.last {c : UInt8} {l : List UInt8} {ss : List ByteArray} {a : Nat} {p : ByteArray} (h : Cut c l ss a l.length) (hp : p.data.toList = (l.drop a).take (l.length - a)) : Cut c l (ss ++ [p]) (l.length + 1) (l.length + 1) := by
  have hs := h.some (Nat.le_refl _)
  rw [List.drop_length] at hs
  refine ⟨Nat.le_refl _, Nat.le_refl _, by have := h.count; simp; omega, fun h2 => by omega, fun _ => ?_⟩
  rw [← hs]
  simp [glue, parts, hp]

theorem infoStr : (Tryd.prog.info? 9).map (fun i => (i.zero, i.size, i.bytes)) = some (some (.string ByteArray.empty), 1, 16) := by kernel_rfl

/-- A slice value with address A reads as the strings ss. -/
def Strs (w : World) (A : Option Addr) (ss : List ByteArray) : Prop :=
  0 < ss.length → ∃ b off, A = some ⟨b, off, none⟩ ∧ ∀ i, i < ss.length → w.cell? ⟨b, off + i, none⟩ = some (.string (ss.getD i ByteArray.empty))

theorem Strs.below {w w' : World} {A : Option Addr} {ss : List ByteArray} (h : Strs w A ss) (hb : Below w.heap.size w w') : Strs w' A ss := by
  intro hp
  obtain ⟨b, off, rfl, hc⟩ := h hp
  exact ⟨b, off, rfl, fun i hi => (hb.cell (World.block_lt_of_cell? _ _ (hc i hi))).trans (hc i hi)⟩

theorem strs_of_own {w : World} {base n cap : Nat} {t : TypeId} {A : Option Addr} {ss : List ByteArray} (h : w.ownsRow base t 1 (.slice A n cap) n (ss.map Value.string)) : ss.length = n ∧ Strs w A ss := by
  have hl : ss.length = n := by have := h.1; simpa using this
  refine ⟨hl, fun hp => ?_⟩
  rcases h.2 with ⟨he, rfl⟩ | ⟨g, cap', cur, he, _, hh, hn, hm, hs, ht⟩
  · omega
  · injection he with h1 _ _
    subst h1
    refine ⟨g, 0, rfl, fun i hi => ?_⟩
    have hc := h.cells (g := g) rfl i (.string (ss.getD i ByteArray.empty)) (by simp [List.getD_eq_getElem?_getD, hi])
    have ea : (⟨g, 0, none⟩ : Addr).add i = ⟨g, 0 + i, none⟩ := by
      unfold Addr.add; split
      · next h => subst h; rfl
      · rfl
    rw [ea] at hc
    exact hc

def IsParts (w : World) (c : UInt8) (l : List UInt8) (e : Ending) (w' : World) : Prop :=
  ∃ (A : Option Addr) (n cap : Nat) (ss : List ByteArray), e = .returned (.slice A n cap) ∧ ss.length = n ∧ n ≤ l.length + 1 ∧ Strs w' A ss ∧ ss.map (·.data.toList) = parts c l ∧ Below w.heap.size w w'

def IsPartsC (w : World) (c : UInt8) (l : List UInt8) (e : Ending) (w' : World) : Prop :=
  ∃ (A : Option Addr) (n cap : Nat) (ss : List ByteArray), e = .returned (.slice A n cap) ∧ ss.length = n ∧ n ≤ l.length + 1 ∧ Strs w' A ss ∧ ss.map (·.data.toList) = parts c l ∧ Below w.heap.size w w' ∧ n ≤ cap

theorem own_cap {w : World} {base n cap : Nat} {t : TypeId} {A : Option Addr} {xs : List Value} (h : w.ownsRow base t 1 (.slice A n cap) n xs) : n ≤ cap := by
  rcases h.2 with ⟨he, _⟩ | ⟨g, cap', cur, he, _, hh, hn, _⟩
  · injection he with _ h2 h3
    omega
  · injection he with _ _ h3
    omega

theorem own_slice {w : World} {base n : Nat} {t : TypeId} {v : Value} {xs : List Value} (h : w.ownsRow base t 1 v n xs) : ∃ A cap, v = .slice A n cap := by
  rcases h.2 with ⟨rfl, rfl⟩ | ⟨g, cap', cur, rfl, _⟩
  · exact ⟨_, _, rfl⟩
  · exact ⟨_, _, rfl⟩

theorem new_one (w : World) (x : Value) (t : TypeId) : ∀ (j : Nat) (u : Value), [x][j]? = some u → (w.alloc (.cells #[x] t)).cell? ((⟨w.heap.size, 0, none⟩ : Addr).add j) = some u := by
  intro j u hj
  match j, hj with
  | 0, hj => simp at hj; subst hj; simp [Addr.add]

theorem one_string (p : ByteArray) : ∀ u ∈ [Value.string p], u.oneCell' = true := by
  intro u hu; simp at hu; subst hu; rfl

set_option maxRecDepth 100000 in
set_option maxHeartbeats 1600000 in
theorem parts_all (s : ByteArray) (c : UInt8) (b : Int) (w : World) (hb : b = (c.toNat : Int)) (hs : s.size ≤ 1048576) :
    Calls Tryd.prog 19 #[.string s, .int .u8 b] w (IsPartsC w c s.data.toList) := by
  have hlen : s.data.toList.length = s.size := by rw [Array.length_toList]; rfl
  obtain ⟨i0, hi, hz0, hz1, hz2⟩ := info_parts infoStr
  have Hi := Lib.hid hi
  have Hz0 := Lib.hid hz0
  have Hz1 := Lib.hid hz1
  have Hz2 := Lib.hid hz2
  clear hi hz0 hz1 hz2
  have Hb := Lib.hid hb
  clear hb
  have Hlen := Lib.hid hlen
  clear hlen
  go_enter Tryd.func19, Tryd.ntmps19
  go_wp2
  go_loopw [5, 6, 7] (fun v a i wr => ∃ (k m : Nat) (ss : List ByteArray), i = .int .i64 k ∧ a = .int .i64 m ∧ Cut c s.data.toList ss m k ∧ wr.ownsRow w.heap.size 9 1 v ss.length (ss.map Value.string) ∧ Below w.heap.size w wr) (fun _ _ i _ => s.size + 1 - (intOf i).toNat)
  case atStart => exact ⟨0, 0, [], rfl, rfl, Cut.start c _, World.ownsRow_lit (w := w) #[] 0 (Nat.le_refl _) (by decide) rfl, bel_alloc _ _⟩
  case round =>
    obtain ⟨k, m, ss, rfl, rfl, hcut, hown, hbel⟩ := hrel
    have hle := hcut.le
    have hfr := hcut.from_
    have hct := hcut.count
    rw [Hlen.out] at hle
    by_cases hend : k = s.size + 1
    · subst hend
      have HA := Lib.hid (hcut.all (by rw [Hlen.out]))
      obtain ⟨A, cap, rfl⟩ := own_slice hown
      have HO := Lib.hid (strs_of_own hown)
      have HCp := Lib.hid (own_cap hown)
      have HB := Lib.hid hbel
      clear hcut hown hbel
      go_wp2
      go_ret
      exact ⟨A, _, cap, ss, rfl, rfl, by rw [Hlen.out]; omega, HO.out.2, HA.out, HB.out, HCp.out⟩
    · have HC := Lib.hid hcut
      clear hcut
      have HO := Lib.hid hown
      clear hown
      have hsz := hbel.size
      by_cases hk : k < s.size
      · have hne : ((k : Int) == (s.size : Int)) = false := by simp; omega
        have hkl : k < s.data.toList.length := by rw [Hlen.out]; exact hk
        have egt : s.data.toList[k] = s[k] := rfl
        have Hg := Lib.hid egt
        clear egt
        by_cases e : s[k] = c
        · have hby : ((s[k].toNat : Int) == b) = true := by rw [Hb.out, e]; simp
          have HN := Lib.hid (HC.out.hit (p := s.extract m k) hkl (Hg.out.trans e) (Lib.extract_data s m k))
          clear e
          go_wp2_with (at_builtin; refine wpList_append_own _ rfl _ _ 34 rfl w.heap.size 9 i0 (.string ByteArray.empty) 1 16 Tryd.underlying34 Hi.out Hz0.out Hz1.out Hz2.out rfl (by decide) _ _ _ rfl (HO.out.alloc _) ⟨wr.heap.size, 0, none⟩ 1 1 [.string (s.extract m k)] rfl rfl ?c1h ?c2h ?c3h ?c4h ?c5h ?_)
          case c1h => exact new_one _ _ _
          case c2h => exact one_string _
          case c3h => unfold maxLen; omega
          case c4h => omega
          case c5h => simp; omega
          · intro v' w1 hown' hgrow _
            have HO1 := Lib.hid (by simpa using hown' : w1.ownsRow w.heap.size 9 1 v' (ss ++ [s.extract m k]).length ((ss ++ [s.extract m k]).map Value.string))
            have HB := Lib.hid ((hbel.alloc hbel.size _).grown hgrow (by simp; omega) (fun g hg => (HO.out.lt g hg).1))
            clear hown' hgrow HO hbel
            go_wp2
            go_roundw
            case rel => exact ⟨k + 1, k + 1, _, by go_num, by go_num, HN.out, HO1.out, HB.out⟩
            case measure => simp [intOf]; omega
        · have hby : ((s[k].toNat : Int) == b) = false := by
            rw [Hb.out, beq_eq_false_iff_ne]
            intro h
            exact e (UInt8.toNat_inj.1 (by omega))
          have HN := Lib.hid (HC.out.miss hkl (fun h => e (Hg.out.symm.trans h)))
          clear e
          go_wp2
          go_roundw
          case rel => exact ⟨k + 1, m, ss, by go_num, rfl, HN.out, HO.out, hbel⟩
          case measure => simp [intOf]; omega
      · obtain rfl : k = s.size := by omega
        have HN : Hid (Cut c s.data.toList (ss ++ [s.extract m s.size]) (s.size + 1) (s.size + 1)) := by
          have h := HC.out
          have hl := Hlen.out
          rw [← hl] at h
          have := h.last (p := s.extract m s.size) (by rw [hl]; exact Lib.extract_data s m s.size)
          rw [hl] at this
          exact this
        clear hk
        go_wp2_with (at_builtin; refine wpList_append_own _ rfl _ _ 34 rfl w.heap.size 9 i0 (.string ByteArray.empty) 1 16 Tryd.underlying34 Hi.out Hz0.out Hz1.out Hz2.out rfl (by decide) _ _ _ rfl (HO.out.alloc _) ⟨wr.heap.size, 0, none⟩ 1 1 [.string (s.extract m s.size)] rfl rfl ?c1z ?c2z ?c3z ?c4z ?c5z ?_)
        case c1z => exact new_one _ _ _
        case c2z => exact one_string _
        case c3z => unfold maxLen; omega
        case c4z => omega
        case c5z => simp; omega
        · intro v' w1 hown' hgrow _
          have HO1 := Lib.hid (by simpa using hown' : w1.ownsRow w.heap.size 9 1 v' (ss ++ [s.extract m s.size]).length ((ss ++ [s.extract m s.size]).map Value.string))
          have HB := Lib.hid ((hbel.alloc hbel.size _).grown hgrow (by simp; omega) (fun g hg => (HO.out.lt g hg).1))
          clear hown' hgrow HO hbel
          go_wp2
          go_roundw
          case rel => exact ⟨s.size + 1, s.size + 1, _, by go_num, by go_num, HN.out, HO1.out, HB.out⟩
          case measure => simp [intOf] <;> omega

theorem parts_any (s : ByteArray) (c : UInt8) (b : Int) (w : World) (hb : b = (c.toNat : Int)) (hs : s.size ≤ 1048576) :
    Calls Tryd.prog 19 #[.string s, .int .u8 b] w (IsParts w c s.data.toList) :=
  (parts_all s c b w hb hs).mono fun _ _ ⟨A, n, cap, ss, h1, h2, h3, h4, h5, h6, _⟩ => ⟨A, n, cap, ss, h1, h2, h3, h4, h5, h6⟩
end Go.Proofs.YtahfmgjchjjlmaaDoor.Parts
