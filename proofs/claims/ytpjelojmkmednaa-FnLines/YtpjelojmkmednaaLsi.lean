/- What sameIds answers: whether a valid queue and a valid heap hold the same Ids. -/
import Derived.Test.YtpjelojmkmednaaLv0
import Derived.Test.YtpjelojmkmednaaLmp
namespace Go.Proofs.Ytpjelojmkmednaa.Ln
open Go.RowKit Go.Deep Base

def sameB (s : Qx) (ds : List Hp.Du) : Bool := decide (s.ids.length = ds.length) && s.ids.all fun i => decide (0 ≤ Hp.fndD ds i)
theorem okL_same (x : Lx) : okL x = (x.s.ok && Hp.okH x.ds x.q && sameB x.s x.ds) := by
  unfold okL sameB
  rw [Bool.and_assoc]

theorem len_le_of : ∀ {a b : List Int}, a.Nodup → (∀ x ∈ a, x ∈ b) → a.length ≤ b.length
  | [], b, _, _ => Nat.zero_le _
  | x :: a, b, hn, hs => by
    obtain ⟨hx, hn'⟩ := List.nodup_cons.1 hn
    have hb : x ∈ b := hs x (by simp)
    have h := len_le_of (b := b.erase x) hn' (fun y hy => (List.mem_erase_of_ne fun e => hx (by rw [← e]; exact hy)).2 (hs y (by simp [hy])))
    rw [List.length_erase_of_mem hb] at h
    have : 0 < b.length := List.length_pos_of_mem hb
    simp
    omega

theorem sameB_iff {s : Qx} {ds : List Hp.Du} {q : Int} (h : s.ok = true) (hv : Hp.HV ds q) : sameB s ds = true ↔ s.ids.length = ds.length ∧ ∀ d ∈ ds, d.id ∈ s.ids := by
  unfold sameB
  simp only [Bool.and_eq_true, decide_eq_true_eq, List.all_eq_true]
  constructor
  · rintro ⟨h1, h2⟩
    refine ⟨h1, fun d hd => ?_⟩
    have hp := perm_of (Qx.ids_facts h).1 (fun i hi => fnd_iff.1 (h2 i hi)) (by simp [dids]; omega)
    exact hp.symm.subset (List.mem_map.2 ⟨d, hd, rfl⟩)
  · rintro ⟨h1, h2⟩
    refine ⟨h1, fun i hi => fnd_iff.2 ?_⟩
    have hp := perm_of (a := dids ds) (b := s.ids) (dids_nodup hv) (fun y hy => by
      obtain ⟨d, hd, rfl⟩ := List.mem_map.1 hy
      exact h2 d hd) (by simp [dids]; omega)
    exact hp.symm.subset hi

/-- The Ids of the used ones of the first k slots. -/
def upTo (ss : List Que.Sl) (k : Nat) : List Int := ((List.range k).filter fun i => (Que.sl ss i).used).map fun i => (Que.sl ss i).id
theorem upTo_yes {ss : List Que.Sl} {k : Nat} (h : (Que.sl ss k).used = true) : upTo ss (k + 1) = upTo ss k ++ [(Que.sl ss k).id] := by
  unfold upTo
  rw [List.range_succ, List.filter_append, List.map_append]
  simp [h]
theorem upTo_no {ss : List Que.Sl} {k : Nat} (h : (Que.sl ss k).used = false) : upTo ss (k + 1) = upTo ss k := by
  unfold upTo
  rw [List.range_succ, List.filter_append, List.map_append]
  simp [h]
theorem same_id {ss : List Que.Sl} {us : List Nat} (h : (us.map fun v => (Que.sl ss v).id).Nodup) {x y : Nat} (hx : x ∈ us) (hy : y ∈ us) (e : (Que.sl ss x).id = (Que.sl ss y).id) : x = y := by
  rw [List.Nodup, List.pairwise_map] at h
  obtain ⟨i, hi, rfl⟩ := List.mem_iff_getElem.1 hx
  obtain ⟨j, hj, rfl⟩ := List.mem_iff_getElem.1 hy
  rw [List.pairwise_iff_getElem] at h
  rcases Nat.lt_trichotomy i j with hlt | rfl | hlt
  · exact absurd e (h i j hi hj hlt)
  · rfl
  · exact absurd e.symm (h j i hj hi hlt)
theorem upTo_new {s : Qx} {us fs : List Nat} (v : s.V us fs) {k : Nat} (hk : k < 60) (h : (Que.sl s.ss k).used = true) : (Que.sl s.ss k).id ∉ upTo s.ss k := by
  intro hm
  obtain ⟨i, hi, he⟩ := List.mem_map.1 hm
  rw [List.mem_filter, List.mem_range] at hi
  have := same_id v.ids (Que.mem_used v (by omega) hi.2) (Que.mem_used v hk h) he
  omega
theorem upTo_nodup {s : Qx} {us fs : List Nat} (v : s.V us fs) : ∀ {k : Nat}, k ≤ 60 → (upTo s.ss k).Nodup
  | 0, _ => by simp [upTo]
  | k + 1, h => by
    cases e : (Que.sl s.ss k).used
    · rw [upTo_no e]; exact upTo_nodup v (by omega)
    · rw [upTo_yes e, List.nodup_append]
      have hn := upTo_new v (by omega) e
      exact ⟨upTo_nodup v (by omega), by simp, fun a ha b hb => by simp at hb; rintro rfl; rw [hb] at ha; exact hn ha⟩
theorem upTo_mem {s : Qx} {us fs : List Nat} (v : s.V us fs) (t : Int) : t ∈ upTo s.ss 60 ↔ t ∈ s.ids := by
  rw [v.ids_eq]
  unfold upTo
  constructor
  · intro h
    obtain ⟨i, hi, he⟩ := List.mem_map.1 h
    rw [List.mem_filter, List.mem_range] at hi
    exact List.mem_map.2 ⟨i, Que.mem_used v hi.1 hi.2, he⟩
  · intro h
    obtain ⟨i, hi, he⟩ := List.mem_map.1 h
    refine List.mem_map.2 ⟨i, ?_, he⟩
    rw [List.mem_filter, List.mem_range]
    exact ⟨v.lt i (by simp [hi]), (Que.seg_used v.seg i hi).1⟩
theorem upTo_len {s : Qx} {us fs : List Nat} (v : s.V us fs) : (upTo s.ss 60).length = s.ids.length :=
  Nat.le_antisymm (len_le_of (upTo_nodup v (Nat.le_refl _)) fun t h => (upTo_mem v t).1 h) (len_le_of (Qx.ids_facts v.ok).1 fun t h => (upTo_mem v t).2 h)

/-- What is left of U when the first k items' Ids have been struck. -/
structure Ers (U : List Int) (ds : List Hp.Du) (k : Nat) (S : List Int) : Prop where
  nd : S.Nodup
  mem : ∀ x, x ∈ S ↔ x ∈ U ∧ ∀ i, i < k → (ds.getD i Hp.zDu).id ≠ x
  len : S.length + k = U.length
  all : ∀ i, i < k → (ds.getD i Hp.zDu).id ∈ U
theorem Ers.zero {U : List Int} (ds : List Hp.Du) (h : U.Nodup) : Ers U ds 0 U := ⟨h, fun x => by simp, rfl, fun i hi => absurd hi (by omega)⟩
theorem Ers.step {U : List Int} {ds : List Hp.Du} {k : Nat} {S : List Int} (h : Ers U ds k S) (hin : (ds.getD k Hp.zDu).id ∈ S) : Ers U ds (k + 1) (S.erase (ds.getD k Hp.zDu).id) := by
  refine ⟨h.nd.erase _, fun x => ?_, ?_, fun i hi => ?_⟩
  · rw [h.nd.mem_erase_iff, h.mem]
    constructor
    · rintro ⟨h1, h2, h3⟩
      refine ⟨h2, fun i hi => ?_⟩
      by_cases e : i = k
      · subst e; exact fun e => h1 e.symm
      · exact h3 i (by omega)
    · rintro ⟨h1, h2⟩
      exact ⟨fun e => h2 k (by omega) e.symm, h1, fun i hi => h2 i (by omega)⟩
  · rw [List.length_erase_of_mem hin]
    have := h.len
    have : 0 < S.length := List.length_pos_of_mem hin
    omega
  · by_cases e : i = k
    · subst e; exact ((h.mem _).1 hin).1
    · exact h.all i (by omega)
theorem Ers.miss {U : List Int} {ds : List Hp.Du} {k : Nat} {S : List Int} {q : Int} (h : Ers U ds k S) (hv : Hp.HV ds q) (hk : k < ds.length) (hin : (ds.getD k Hp.zDu).id ∉ S) : (ds.getD k Hp.zDu).id ∉ U :=
  fun hu => hin ((h.mem _).2 ⟨hu, fun i hi => (hv.apart k i hi hk).1⟩)

/-- Between two rounds of the first walk. -/
structure SiSt (w wr : World) (A : Option Addr) (ca : Nat) (s : Qx) (B : Option Addr) (cb : Nat) (ds : List Hp.Du) (q : Int) (S : List Int) : Prop where
  map : Im wr (w.heap.size + 1 + 1) S
  hb : Bx wr (w.heap.size + 1) 29 #[.slice B ds.length cb, .int .i64 q]
  old : Below w.heap.size w wr

set_option maxRecDepth 100000 in
set_option maxHeartbeats 2000000 in
theorem sameIds_any (A : Option Addr) (ca : Nat) (s : Qx) (B : Option Addr) (cb : Nat) (ds : List Hp.Du) (q : Int) (a b c d : Nat) (w : World) (hok : s.ok = true) (hv : Hp.HV ds q) (h1 : Que.SlV w a b A s.ss) (h2 : Hp.DV w c d B ds) (hb : b ≤ w.heap.size) (hd : d ≤ w.heap.size) :
    Calls Try.prog 61 #[.agg #[.slice A s.ss.length ca, .int .i64 s.f, .int .i64 s.l, .int .i64 s.r, .int .i64 s.c], .agg #[.slice B ds.length cb, .int .i64 q]] w fun e w' => e = .returned (.bool (sameB s ds)) ∧ Below w.heap.size w w' := by
  obtain ⟨us, fs, v⟩ := Qx.ok_val hok
  have HV := Lib.hid v
  have HH := Lib.hid hv
  have HS := Lib.hid h1
  have HD := Lib.hid h2
  have hn : s.ss.length = 60 := v.len
  have hm : ds.length ≤ 100 := hv.few
  have Hi := Lib.hid (sameB_iff hok hv)
  clear h1 h2 v hv hok
  have Hn := Lib.hid hn
  clear hn
  have hmm := @run_makeMap Try.prog
  go_enter Try.func61, Try.ntmps61
  go_wp2
  clear hmm
  go_loopw [14] (fun i wr => ∃ k : Nat, k ≤ s.ss.length ∧ i = .int .i64 k ∧ SiSt w wr A ca s B cb ds q (upTo s.ss k)) (fun i _ => s.ss.length - (intOf i).toNat)
  case atStart =>
    refine ⟨0, Nat.zero_le _, rfl, Im.zero (c := 0) ?_, (Bx.at_new (w.alloc _) _ (by simp) _ _).alloc _, (((Below.refl _ _).alloc (Nat.le_refl _) _).alloc (by simp) _).alloc (by simp; omega) _⟩
    have h := heap_alloc_new ((w.alloc (.cells #[.slice A s.ss.length ca, .int .i64 s.f, .int .i64 s.l, .int .i64 s.r, .int .i64 s.c] 26)).alloc (.cells #[.slice B ds.length cb, .int .i64 q] 29)) (.map #[] 0)
    simp only [World.size_alloc] at h
    exact h
  case round =>
    obtain ⟨k, hk, rfl, hi⟩ := hrel
    have Si := Lib.hid hi
    clear hi
    by_cases hlt : k < s.ss.length
    · obtain ⟨g, rfl, hg1, hg2, hrd⟩ := (HS.out.below Si.out.old hb) (by omega)
      obtain ⟨c0, c1, c2, c3, _⟩ := hrd k (by omega)
      obtain ⟨sid, sprev, snext, su, hsl⟩ : ∃ a b c d, s.ss.getD k Que.zSl = ⟨a, b, c, d⟩ := ⟨_, _, _, _, rfl⟩
      rw [hsl] at c0 c1 c2 c3
      dsimp only at c0 c1 c2 c3
      have Hsl : Hid (Que.sl s.ss k = ⟨sid, sprev, snext, su⟩) := hsl
      clear hsl hrd
      have hk0 : (0 : Int) ≤ (k : Int) := by omega
      have hk1 : (k : Int) < (s.ss.length : Int) := by omega
      have hk2 : (k : Int) < 60 := by have := Hn.out; omega
      cases su
      · have Hu : Hid (upTo s.ss (k + 1) = upTo s.ss k) := upTo_no (by rw [Hsl.out])
        go_wp2
        go_roundw
        case rel => exact ⟨k + 1, by omega, by go_num, by rw [Hu.out]; exact ⟨Si.out.map.of_block (Below.heap_alloc _ _ _ Si.out.map.lt), Si.out.hb.alloc _, bel_trans Si.out.old (bel_alloc wr _)⟩⟩
        case measure => simp [intOf]; omega
      · have Hu : Hid (upTo s.ss (k + 1) = upTo s.ss k ++ [sid]) := (upTo_yes (by rw [Hsl.out])).trans (by rw [Hsl.out])
        have hnew := upTo_new HV.out (k := k) (by have := Hn.out; omega) (by rw [Hsl.out])
        rw [Hsl.out] at hnew
        obtain ⟨o, hp, him⟩ := put_new (w := wr.alloc (.cells #[.int .i64 sid, .int .i64 sprev, .int .i64 snext, .bool true] 91)) (Si.out.map.of_block (Below.heap_alloc _ _ _ Si.out.map.lt)) hnew
        have Him := Lib.hid him
        have hne : w.heap.size + 1 + 1 ≠ w.heap.size + 1 := by omega
        have Ho : Hid (SiSt w ((wr.alloc (.cells #[.int .i64 sid, .int .i64 sprev, .int .i64 snext, .bool true] 91)).putObj (w.heap.size + 1 + 1) o) (some ⟨g, 0, none⟩) ca s B cb ds q (upTo s.ss (k + 1))) := by
          refine ⟨by rw [Hu.out]; exact him, (Si.out.hb.alloc _).of_block (World.putObj_heap_other (by omega)), put_below o (bel_trans Si.out.old (bel_alloc wr _)) (by omega)⟩
        clear hnew him
        go_wp2
        go_roundw
        case rel => exact ⟨k + 1, by omega, by go_num, Ho.out⟩
        case measure => simp [intOf]; omega
    · obtain rfl : k = s.ss.length := by omega
      have U := Lib.hid (upTo_nodup HV.out (Nat.le_refl _))
      have M := Lib.hid (upTo_mem HV.out)
      have L := Lib.hid (upTo_len HV.out)
      have hS : s.ss.length = 60 := Hn.out
      rw [hS] at Si
      clear hS
      generalize upTo s.ss 60 = u at Si U M L
      have E := Lib.hid (Ers.zero ds U.out)
      obtain ⟨x0, x1, xf⟩ := Si.out.hb.cells2
      go_wp2
      clear x0 x1 xf
      go_loopw [27] (fun i wr => ∃ k : Nat, k ≤ ds.length ∧ i = .int .i64 k ∧ ∃ S, Ers u ds k S ∧ SiSt w wr A ca s B cb ds q S) (fun i _ => ds.length - (intOf i).toNat)
      case atStart => exact ⟨0, Nat.zero_le _, rfl, u, E.out, Si.out⟩
      case round =>
        obtain ⟨k, hk, rfl, S, he, hi⟩ := hrel
        have Si := Lib.hid hi
        have Er := Lib.hid he
        clear hi he E
        by_cases hlt : k < ds.length
        · obtain ⟨g, rfl, hg1, hg2, hrd⟩ := (HD.out.below Si.out.old hd) (by omega)
          obtain ⟨c0, c1, c2, _⟩ := hrd k (by omega)
          obtain ⟨dat, dseq, did, hdu⟩ : ∃ a b c, ds.getD k Hp.zDu = ⟨a, b, c⟩ := ⟨_, _, _, rfl⟩
          rw [hdu] at c0 c1 c2
          dsimp only at c0 c1 c2
          have Hdu := Lib.hid hdu
          clear hdu hrd
          have hk0 : (0 : Int) ≤ (k : Int) := by omega
          have hk1 : (k : Int) < (ds.length : Int) := by omega
          have hk2 : (k : Int) < 100 := by omega
          have hmap : Im (wr.alloc (.cells #[.int .i64 dat, .int .i64 dseq, .int .i64 did] 80)) (w.heap.size + 1 + 1) S := Si.out.map.of_block (Below.heap_alloc _ _ _ Si.out.map.lt)
          have hlk := look_ids hmap did
          by_cases hin : did ∈ S
          · rw [decide_eq_true hin] at hlk
            obtain ⟨o, hp, him⟩ := del_yes hmap hin
            have Ho : Hid (∃ S', Ers u ds (k + 1) S' ∧ SiSt w ((wr.alloc (.cells #[.int .i64 dat, .int .i64 dseq, .int .i64 did] 80)).putObj (w.heap.size + 1 + 1) o) A ca s (some ⟨g, 0, none⟩) cb ds q S') := by
              refine ⟨_, Er.out.step (by rw [Hdu.out]; exact hin), ⟨?_, (Si.out.hb.alloc _).of_block (World.putObj_heap_other (by omega)), put_below o (bel_trans Si.out.old (bel_alloc wr _)) (by omega)⟩⟩
              rw [Hdu.out]
              exact him
            clear hin hmap him
            go_wp2
            go_roundw
            case rel => exact ⟨k + 1, by omega, by go_num, Ho.out⟩
            case measure => simp [intOf]; omega
          · rw [decide_eq_false hin] at hlk
            have Hno : Hid (sameB s ds = false) := by
              show sameB s ds = false
              cases e : sameB s ds
              · rfl
              · exfalso
                have h1 := Er.out.miss HH.out hlt (by rw [Hdu.out]; exact hin)
                exact h1 ((M.out _).2 ((Hi.out.1 e).2 _ (by simp [List.getD_eq_getElem?_getD, hlt])))
            clear hin hmap
            go_wp2
            go_ret
            exact ⟨by rw [Hno.out]; rfl, bel_trans Si.out.old (bel_alloc wr _)⟩
        · obtain rfl : k = ds.length := by omega
          have hlen := len_ids Si.out.map
          have Ho : Hid (sameB s ds = ((S.length : Int) == 0)) := by
            show sameB s ds = _
            have h1 := Er.out.len
            have h2 := L.out
            rw [Bool.eq_iff_iff, Hi.out, beq_iff_eq]
            constructor
            · rintro ⟨h3, _⟩; omega
            · intro h3
              refine ⟨by omega, fun d hd => ?_⟩
              obtain ⟨i, hi, rfl⟩ := List.mem_iff_getElem.1 hd
              have := Er.out.all i hi
              rw [M.out] at this
              simpa [List.getD_eq_getElem?_getD, hi] using this
          go_wp2
          go_ret
          exact ⟨by rw [Ho.out]; rfl, Si.out.old⟩
end Go.Proofs.Ytpjelojmkmednaa.Ln
