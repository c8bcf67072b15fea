/- What PlaceOf answers, the program's and the reference's. -/
import Derived.Test.YtjbfmagedkmngaaLawOk
namespace Go.Proofs.Ytjbfmagedkmngaa.Que
open Go.RowKit Go.Deep Base Rng

def usOf (ss : List Sl) (f : Int) : List Nat := match usedW ss 61 f (-1) [] with
  | some (us, _) => us
  | none => []
theorem val_us {ss : List Sl} {f l r c : Int} {us fs : List Nat} (v : Val ss f l r c us fs) : usOf ss f = us := by
  have hf := v.full
  rw [List.length_append] at hf
  have h1 := usedW_of (f := 61) (vis := []) v.seg (fun x hx => v.lt x (by simp [hx])) (by simpa using v.ids) (by omega)
  unfold usOf
  rw [h1]
  simp
def placeA (ss : List Sl) (f l r c id : Int) : Int := if okQ ss f l r c = true then placeF ss (usOf ss f) id else -1
theorem placeA_no {ss : List Sl} {f l r c : Int} (id : Int) (h : okQ ss f l r c = false) : placeA ss f l r c id = -1 := by unfold placeA; rw [if_neg (by rw [h]; simp)]
theorem placeA_val {ss : List Sl} {f l r c : Int} {us fs : List Nat} (id : Int) (v : Val ss f l r c us fs) : placeA ss f l r c id = placeF ss us id := by unfold placeA; rw [if_pos (val_ok v), val_us v]

def headOf : List Nat → Int
  | [] => -1
  | x :: _ => (x : Int)
theorem seg_head {ss : List Sl} : ∀ {l : List Nat} {pr p m : Int}, Seg ss pr p l m (-1) → p = headOf l
  | [], _, _, _, h => h.2.symm
  | _ :: _, _, _, _, h => h.1
theorem seg_next {ss : List Sl} {pre suf : List Nat} {x : Nat} {pr p m : Int} (h : Seg ss pr p (pre ++ x :: suf) m (-1)) : (sl ss x).next = headOf suf := by
  obtain ⟨_, _, _, h2⟩ := (seg_append _ _ _ _ _ _ _).1 h
  exact seg_head h2.2.2.2
theorem find_here {ss : List Sl} {pre suf : List Nat} {x : Nat} {id : Int} (h : ∀ y ∈ pre, (sl ss y).id ≠ id) (hx : (sl ss x).id = id) : placeF ss (pre ++ x :: suf) id = (x : Int) := by
  have : (pre ++ x :: suf).find? (fun x => (sl ss x).id == id) = some x := by
    rw [List.find?_append, List.find?_eq_none.2 (fun y hy => by simpa using h y hy)]
    simp [hx]
  unfold placeF; rw [this]
theorem find_not {ss : List Sl} {pre : List Nat} {id : Int} (h : ∀ y ∈ pre, (sl ss y).id ≠ id) : placeF ss pre id = -1 := by
  unfold placeF; rw [List.find?_eq_none.2 (fun y hy => by simpa using h y hy)]
/-- How far a place is from the end. -/
def left (us : List Nat) (p : Int) : Nat := if p = -1 then 0 else us.length - us.idxOf p.toNat
theorem left_at {pre suf : List Nat} {x : Nat} (h : (pre ++ x :: suf).Nodup) : left (pre ++ x :: suf) (x : Int) = suf.length + 1 := by
  have hx : x ∉ pre := fun hm => (List.nodup_append.1 h).2.2 x hm x (by simp) rfl
  unfold left
  rw [if_neg (by omega), Int.toNat_natCast, List.idxOf_append, if_neg hx, List.idxOf_cons_self, List.length_append, List.length_cons]
  omega
theorem left_less {pre suf : List Nat} {x : Nat} (h : (pre ++ x :: suf).Nodup) : left (pre ++ x :: suf) (headOf suf) < left (pre ++ x :: suf) (x : Int) := by
  rw [left_at h]
  cases suf with
  | nil => unfold left headOf; rw [if_pos rfl]; simp
  | cons y s =>
    have h' : ((pre ++ [x]) ++ y :: s).Nodup := by simpa using h
    have := left_at h'
    rw [show pre ++ [x] ++ y :: s = pre ++ x :: y :: s from by simp] at this
    show left _ (y : Int) < _
    rw [this]; simp

set_option maxRecDepth 100000 in
set_option maxHeartbeats 1000000 in
theorem implPlace_any (A : Option Addr) (n cap : Nat) (ss : List Sl) (f l r c id : Int) (lo hi : Nat) (w : World) (hn : ss.length = n) (h : SlV w lo hi A ss) (hhi : hi ≤ w.heap.size) :
    Calls Try.prog 20 #[.agg #[.slice A n cap, .int .i64 f, .int .i64 l, .int .i64 r, .int .i64 c], .int .i64 id] w fun e w' => e = .returned (.int .i64 (placeA ss f l r c id)) ∧ Below w.heap.size w w' := by
  have Hn := Lib.hid hn
  have HS := Lib.hid h
  have Hhi := Lib.hid hhi
  clear h hn hhi
  go_enter Try.func20, Try.ntmps20
  go_wp2_with fail
  refine (linksOf_any A n cap ss f l r c lo hi _ Hn.out (HS.out.below (bel_alloc w _) Hhi.out) (by have := Hhi.out; simp; omega)).mono ?_
  rintro e w1 ⟨s', f', l', r', c', rfl, heq, hb1⟩
  have HB1 := Lib.hid (bel_trans (bel_alloc w _) hb1)
  have Heq := Lib.hid heq
  clear hb1 heq
  have hsc := store_links w1 Try.zeroCells54 (lkA s' f' l' r' c') (by rw [zero_links, lkA_size]) s' f' l' r' c' rfl
  have hsz := lkA_size s' f' l' r' c'
  cases hok : okQ ss f l r c
  · have Ho := Lib.hid (placeA_no id hok)
    clear hok
    go_wp2_with fail
    go_ret
    exact ⟨by rw [Ho.out]; rfl, HB1.out.alloc (HB1.out.size) _⟩
  obtain ⟨us, fs, v⟩ := ok_val hok
  clear hok
  obtain ⟨rfl, rfl, rfl, rfl, rfl⟩ := Heq.out v.len
  have Hv := Lib.hid v
  clear v
  go_wp2_with fail
  clear hsc hsz
  have hL : Lk (w1.alloc (.cells (lkA s' f' l' r' c') 54)) w1.heap.size s' f' l' r' c' := heap_alloc_new w1 _
  have hfull := Hv.out.full
  refine (placeOf_any w1.heap.size id f' l' r' c' s' us _ hL (inr_of Hv.out.len (val_range Hv.out)).1 Hv.out.seg (fun x hx => Hv.out.lt x (by simp [hx])) (by rw [List.length_append] at hfull; omega)).mono ?_
  rintro e w2 ⟨rfl, b2⟩
  clear hfull hL
  have Ho := Lib.hid (placeA_val id Hv.out)
  go_wp2
  go_ret
  exact ⟨by rw [Ho.out]; rfl, bel_trans (bel_trans HB1.out (bel_alloc w1 _)) b2⟩

set_option maxRecDepth 100000 in
set_option maxHeartbeats 1000000 in
theorem specPlace_any (A : Option Addr) (n cap : Nat) (ss : List Sl) (f l r c id : Int) (lo hi : Nat) (w : World) (hn : ss.length = n) (hm : n ≤ 1048576) (h : SlV w lo hi A ss) (hhi : hi ≤ w.heap.size) :
    Calls Try.prog 36 #[.agg #[.slice A n cap, .int .i64 f, .int .i64 l, .int .i64 r, .int .i64 c], .int .i64 id] w fun e w' => e = .returned (.int .i64 (placeA ss f l r c id)) ∧ Below w.heap.size w w' := by
  have Hn := Lib.hid hn
  have HS := Lib.hid h
  have Hhi := Lib.hid hhi
  clear h hn hhi
  go_enter Try.func36, Try.ntmps36
  go_wp2_with fail
  refine (specQueueOk_any A n cap lo hi f l r c ss _ Hn.out hm (HS.out.below (bel_alloc w _) Hhi.out) (by have := Hhi.out; simp; omega)).mono ?_
  rintro e w1 ⟨rfl, b1⟩
  have X1 : Hid (Blk5 w1 w.heap.size _ _ _ _ _) := Blk5.below (heap_alloc_new w _) b1
  have B1 := Lib.hid (bel_trans (bel_alloc w _) b1)
  have V1 := Lib.hid (HS.out.below B1.out Hhi.out)
  clear b1
  cases hok : okQ ss f l r c
  · have Ho := Lib.hid (placeA_no id hok)
    clear hok
    go_wp2_with fail
    go_ret
    exact ⟨by rw [Ho.out]; rfl, B1.out⟩
  obtain ⟨us, fs, v⟩ := ok_val hok
  clear hok
  have hn := Hn.out
  rw [v.len] at hn
  subst hn
  obtain ⟨g, rfl, hg1, hg2, hrd⟩ := V1.out (by rw [v.len]; omega)
  have Hrd := Lib.hid hrd
  have Hv := Lib.hid v
  have Hus := Lib.hid (seg_head v.seg)
  clear v hrd hg1 hg2
  obtain ⟨x0, x1, x2, x3, x4, xf⟩ := X1.out.cells
  go_wp2_with fail
  go_loop [5] (fun p => ∃ pre suf, us = pre ++ suf ∧ p = .int .i64 (headOf suf) ∧ ∀ x ∈ pre, (sl ss x).id ≠ id) (fun p => left us (intOf p))
  case atStart => exact ⟨[], us, rfl, by rw [← Hus.out], by simp⟩
  case round =>
    obtain ⟨pre, suf, hus, rfl, hno⟩ := hrel
    cases suf with
    | nil =>
      have Ho := Lib.hid (placeA_val id Hv.out)
      rw [List.append_nil] at hus
      subst hus
      have Hno := Lib.hid (find_not hno)
      clear hno
      simp only [headOf]
      go_wp2
      go_ret
      exact ⟨by rw [Ho.out, Hno.out]; rfl, B1.out⟩
    | cons x suf =>
      subst hus
      have hx60 : x < 60 := Hv.out.lt x (by simp)
      obtain ⟨c0, c1, c2, c3, _⟩ := Hrd.out x (by rw [Hv.out.len]; exact hx60)
      have hx0 : (0 : Int) ≤ (x : Int) := by omega
      have hx1 : (x : Int) < 60 := by omega
      have hxn : ((x : Int) != -1) = true := by simp
      have Hnx := Lib.hid (seg_next Hv.out.seg)
      have Hno := Lib.hid hno
      have hnd : (pre ++ x :: suf).Nodup := (List.nodup_append.1 Hv.out.nd).1
      have Hlt := Lib.hid (left_less hnd)
      clear hno hnd
      obtain ⟨s, hs⟩ : ∃ s, ss.getD x zSl = s := ⟨_, rfl⟩
      have hs' : sl ss x = s := hs
      rw [hs] at c0 c1 c2 c3
      have Hs := Lib.hid hs'
      clear hs hs'
      obtain ⟨sid, sprev, snext, sused⟩ := s
      dsimp only at c0 c1 c2 c3
      have hnx : snext = headOf suf := by have := Hnx.out; rw [Hs.out] at this; exact this
      subst hnx
      by_cases hid : sid = id
      · subst hid
        have Ho := Lib.hid (placeA_val sid Hv.out)
        have Hf := Lib.hid (find_here (suf := suf) Hno.out (by rw [Hs.out]))
        simp only [headOf]
        go_wp2
        go_ret
        exact ⟨by rw [Ho.out, Hf.out]; rfl, B1.out⟩
      · simp only [headOf]
        generalize hnq : headOf suf = nq at c2 Hlt
        have Hnq := Lib.hid hnq
        clear hnq
        go_wp2
        go_round
        case rel =>
          refine ⟨pre ++ [x], suf, by simp, congrArg (Value.int .i64) Hnq.out.symm, fun y hy => ?_⟩
          rcases List.mem_append.1 hy with hy | hy
          · exact Hno.out y hy
          · rw [List.mem_singleton.1 hy, Hs.out]; exact hid
        case measure => exact Hlt.out
end Go.Proofs.Ytjbfmagedkmngaa.Que
