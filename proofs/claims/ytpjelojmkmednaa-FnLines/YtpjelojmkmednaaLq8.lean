/- What PlaceOf answers, the program's and the reference's. The copy of any slice of slots, and what unchanged answers. What push does to the program's form. -/
import Derived.Test.YtpjelojmkmednaaLq7
import Derived.StillTailTactics
namespace Go.Proofs.Ytpjelojmkmednaa.Que
open Go.RowKit Go.Deep Base Rng

def usOf (ss : List Sl) (f : Int) : List Nat := match usedW ss 61 f (-1) [] with
  | some (us, _) => us
  | none => []
theorem val_us {ss : List Sl} {f l r c : Int} {us fs : List Nat} (v : Val ss f l r c us fs) : usOf ss f = us := by
  have hf := v.full
  rw [List.length_append] at hf
  have h1 := usedW_of (f := 61) (vis := []) v.seg (fun x hx => v.lt x (by simp [hx])) (by simpa using v.ids) (by omega)
  unfold usOf
  rw [h1]
  simp
def placeA (ss : List Sl) (f l r c id : Int) : Int := if okQ ss f l r c = true then placeF ss (usOf ss f) id else -1
theorem placeA_no {ss : List Sl} {f l r c : Int} (id : Int) (h : okQ ss f l r c = false) : placeA ss f l r c id = -1 := by unfold placeA; rw [if_neg (by rw [h]; simp)]
theorem placeA_val {ss : List Sl} {f l r c : Int} {us fs : List Nat} (id : Int) (v : Val ss f l r c us fs) : placeA ss f l r c id = placeF ss us id := by unfold placeA; rw [if_pos (val_ok v), val_us v]

def headOf : List Nat → Int
  | [] => -1
  | x :: _ => (x : Int)
theorem seg_head {ss : List Sl} : ∀ {l : List Nat} {pr p m : Int}, Seg ss pr p l m (-1) → p = headOf l
  | [], _, _, _, h => h.2.symm
  | _ :: _, _, _, _, h => h.1
theorem seg_next {ss : List Sl} {pre suf : List Nat} {x : Nat} {pr p m : Int} (h : Seg ss pr p (pre ++ x :: suf) m (-1)) : (sl ss x).next = headOf suf := by
  obtain ⟨_, _, _, h2⟩ := (seg_append _ _ _ _ _ _ _).1 h
  exact seg_head h2.2.2.2
theorem find_here {ss : List Sl} {pre suf : List Nat} {x : Nat} {id : Int} (h : ∀ y ∈ pre, (sl ss y).id ≠ id) (hx : (sl ss x).id = id) : placeF ss (pre ++ x :: suf) id = (x : Int) := by
  have : (pre ++ x :: suf).find? (fun x => (sl ss x).id == id) = some x := by
    rw [List.find?_append, List.find?_eq_none.2 (fun y hy => by simpa using h y hy)]
    simp [hx]
  unfold placeF; rw [this]
theorem find_not {ss : List Sl} {pre : List Nat} {id : Int} (h : ∀ y ∈ pre, (sl ss y).id ≠ id) : placeF ss pre id = -1 := by
  unfold placeF; rw [List.find?_eq_none.2 (fun y hy => by simpa using h y hy)]
/-- How far a place is from the end. -/
def left (us : List Nat) (p : Int) : Nat := if p = -1 then 0 else us.length - us.idxOf p.toNat
theorem left_at {pre suf : List Nat} {x : Nat} (h : (pre ++ x :: suf).Nodup) : left (pre ++ x :: suf) (x : Int) = suf.length + 1 := by
  have hx : x ∉ pre := fun hm => (List.nodup_append.1 h).2.2 x hm x (by simp) rfl
  unfold left
  rw [if_neg (by omega), Int.toNat_natCast, List.idxOf_append, if_neg hx, List.idxOf_cons_self, List.length_append, List.length_cons]
  omega
theorem left_less {pre suf : List Nat} {x : Nat} (h : (pre ++ x :: suf).Nodup) : left (pre ++ x :: suf) (headOf suf) < left (pre ++ x :: suf) (x : Int) := by
  rw [left_at h]
  cases suf with
  | nil => unfold left headOf; rw [if_pos rfl]; simp
  | cons y s =>
    have h' : ((pre ++ [x]) ++ y :: s).Nodup := by simpa using h
    have := left_at h'
    rw [show pre ++ [x] ++ y :: s = pre ++ x :: y :: s from by simp] at this
    show left _ (y : Int) < _
    rw [this]; simp

set_option maxRecDepth 100000 in
set_option maxHeartbeats 1000000 in
theorem implPlace_any (A : Option Addr) (n cap : Nat) (ss : List Sl) (f l r c id : Int) (lo hi : Nat) (w : World) (hn : ss.length = n) (h : SlV w lo hi A ss) (hhi : hi ≤ w.heap.size) :
    Calls Try.prog 48 #[.agg #[.slice A n cap, .int .i64 f, .int .i64 l, .int .i64 r, .int .i64 c], .int .i64 id] w fun e w' => e = .returned (.int .i64 (placeA ss f l r c id)) ∧ Below w.heap.size w w' := by
  have Hn := Lib.hid hn
  have HS := Lib.hid h
  have Hhi := Lib.hid hhi
  clear h hn hhi
  go_enter Try.func48, Try.ntmps48
  go_wp2_with fail
  refine (linksOf_any A n cap ss f l r c lo hi _ Hn.out (HS.out.below (bel_alloc w _) Hhi.out) (by have := Hhi.out; simp; omega)).mono ?_
  rintro e w1 ⟨s', f', l', r', c', rfl, heq, hb1⟩
  have HB1 := Lib.hid (bel_trans (bel_alloc w _) hb1)
  have Heq := Lib.hid heq
  clear hb1 heq
  have hsc := store_links w1 Try.zeroCells94 (lkA s' f' l' r' c') (by rw [zero_links, lkA_size]) s' f' l' r' c' rfl
  have hsz := lkA_size s' f' l' r' c'
  cases hok : okQ ss f l r c
  · have Ho := Lib.hid (placeA_no id hok)
    clear hok
    go_wp2_with fail
    go_ret
    exact ⟨by rw [Ho.out]; rfl, HB1.out.alloc (HB1.out.size) _⟩
  obtain ⟨us, fs, v⟩ := ok_val hok
  clear hok
  obtain ⟨rfl, rfl, rfl, rfl, rfl⟩ := Heq.out v.len
  have Hv := Lib.hid v
  clear v
  go_wp2_with fail
  clear hsc hsz
  have hL : Lk (w1.alloc (.cells (lkA s' f' l' r' c') 94)) w1.heap.size s' f' l' r' c' := heap_alloc_new w1 _
  have hfull := Hv.out.full
  refine (placeOf_any w1.heap.size id f' l' r' c' s' us _ hL (inr_of Hv.out.len (val_range Hv.out)).1 Hv.out.seg (fun x hx => Hv.out.lt x (by simp [hx])) (by rw [List.length_append] at hfull; omega)).mono ?_
  rintro e w2 ⟨rfl, b2⟩
  clear hfull hL
  have Ho := Lib.hid (placeA_val id Hv.out)
  go_wp2
  go_ret
  exact ⟨by rw [Ho.out]; rfl, bel_trans (bel_trans HB1.out (bel_alloc w1 _)) b2⟩

set_option maxRecDepth 100000 in
set_option maxHeartbeats 1000000 in
theorem specPlace_any (A : Option Addr) (n cap : Nat) (ss : List Sl) (f l r c id : Int) (lo hi : Nat) (w : World) (hn : ss.length = n) (hm : n ≤ 1048576) (h : SlV w lo hi A ss) (hhi : hi ≤ w.heap.size) :
    Calls Try.prog 69 #[.agg #[.slice A n cap, .int .i64 f, .int .i64 l, .int .i64 r, .int .i64 c], .int .i64 id] w fun e w' => e = .returned (.int .i64 (placeA ss f l r c id)) ∧ Below w.heap.size w w' := by
  have Hn := Lib.hid hn
  have HS := Lib.hid h
  have Hhi := Lib.hid hhi
  clear h hn hhi
  go_enter Try.func69, Try.ntmps69
  go_wp2_with fail
  refine (specQueueOk_any A n cap lo hi f l r c ss _ Hn.out hm (HS.out.below (bel_alloc w _) Hhi.out) (by have := Hhi.out; simp; omega)).mono ?_
  rintro e w1 ⟨rfl, b1⟩
  have X1 : Hid (Blk5 w1 w.heap.size _ _ _ _ _) := Blk5.below (heap_alloc_new w _) b1
  have B1 := Lib.hid (bel_trans (bel_alloc w _) b1)
  have V1 := Lib.hid (HS.out.below B1.out Hhi.out)
  clear b1
  cases hok : okQ ss f l r c
  · have Ho := Lib.hid (placeA_no id hok)
    clear hok
    go_wp2_with fail
    go_ret
    exact ⟨by rw [Ho.out]; rfl, B1.out⟩
  obtain ⟨us, fs, v⟩ := ok_val hok
  clear hok
  have hn := Hn.out
  rw [v.len] at hn
  subst hn
  obtain ⟨g, rfl, hg1, hg2, hrd⟩ := V1.out (by rw [v.len]; omega)
  have Hrd := Lib.hid hrd
  have Hv := Lib.hid v
  have Hus := Lib.hid (seg_head v.seg)
  clear v hrd hg1 hg2
  obtain ⟨x0, x1, x2, x3, x4, xf⟩ := X1.out.cells
  go_wp2_with fail
  go_loop [5] (fun p => ∃ pre suf, us = pre ++ suf ∧ p = .int .i64 (headOf suf) ∧ ∀ x ∈ pre, (sl ss x).id ≠ id) (fun p => left us (intOf p))
  case atStart => exact ⟨[], us, rfl, by rw [← Hus.out], by simp⟩
  case round =>
    obtain ⟨pre, suf, hus, rfl, hno⟩ := hrel
    cases suf with
    | nil =>
      have Ho := Lib.hid (placeA_val id Hv.out)
      rw [List.append_nil] at hus
      subst hus
      have Hno := Lib.hid (find_not hno)
      clear hno
      simp only [headOf]
      go_wp2
      go_ret
      exact ⟨by rw [Ho.out, Hno.out]; rfl, B1.out⟩
    | cons x suf =>
      subst hus
      have hx60 : x < 60 := Hv.out.lt x (by simp)
      obtain ⟨c0, c1, c2, c3, _⟩ := Hrd.out x (by rw [Hv.out.len]; exact hx60)
      have hx0 : (0 : Int) ≤ (x : Int) := by omega
      have hx1 : (x : Int) < 60 := by omega
      have hxn : ((x : Int) != -1) = true := by simp
      have Hnx := Lib.hid (seg_next Hv.out.seg)
      have Hno := Lib.hid hno
      have hnd : (pre ++ x :: suf).Nodup := (List.nodup_append.1 Hv.out.nd).1
      have Hlt := Lib.hid (left_less hnd)
      clear hno hnd
      obtain ⟨s, hs⟩ : ∃ s, ss.getD x zSl = s := ⟨_, rfl⟩
      have hs' : sl ss x = s := hs
      rw [hs] at c0 c1 c2 c3
      have Hs := Lib.hid hs'
      clear hs hs'
      obtain ⟨sid, sprev, snext, sused⟩ := s
      dsimp only at c0 c1 c2 c3
      have hnx : snext = headOf suf := by have := Hnx.out; rw [Hs.out] at this; exact this
      subst hnx
      by_cases hid : sid = id
      · subst hid
        have Ho := Lib.hid (placeA_val sid Hv.out)
        have Hf := Lib.hid (find_here (suf := suf) Hno.out (by rw [Hs.out]))
        simp only [headOf]
        go_wp2
        go_ret
        exact ⟨by rw [Ho.out, Hf.out]; rfl, B1.out⟩
      · simp only [headOf]
        generalize hnq : headOf suf = nq at c2 Hlt
        have Hnq := Lib.hid hnq
        clear hnq
        go_wp2
        go_round
        case rel =>
          refine ⟨pre ++ [x], suf, by simp, congrArg (Value.int .i64) Hnq.out.symm, fun y hy => ?_⟩
          rcases List.mem_append.1 hy with hy | hy
          · exact Hno.out y hy
          · rw [List.mem_singleton.1 hy, Hs.out]; exact hid
        case measure => exact Hlt.out
end Go.Proofs.Ytpjelojmkmednaa.Que

namespace Go.Proofs.Ytpjelojmkmednaa.Que
open Go.RowKit Go.Deep Base Rng

set_option maxRecDepth 100000 in
set_option maxHeartbeats 400000 in
theorem clone_zero (a : Addr) (cap : Nat) (w : World) : Calls Try.prog 113 #[.slice (some a) 0 cap] w (NewS w 0 []) := by
  obtain ⟨i0, hi0, hz0, hz1, hz2⟩ := info_parts infoSlot
  have Hi0 := Lib.hid hi0
  have Hz0 := Lib.hid hz0
  have Hz1 := Lib.hid hz1
  have Hz2 := Lib.hid hz2
  clear hi0 hz0 hz1 hz2
  have hnil := fun W => Lib.run_eql_slice_nil (P := Try.prog) W 24 91 (some a) 0 cap 0 0 Try.underlying24
  go_enter Try.func113, Try.ntmps113
  go_wp2_with (at_builtin; refine wpList_append_own _ rfl _ _ 24 rfl w.heap.size 91 i0 _ 4 32 Try.underlying24 Hi0.out Hz0.out Hz1.out Hz2.out rfl (by decide) _ 0 [] rfl ?c0h a 0 cap [] rfl ?c6h ?c1h ?c2h ?c3h ?c4h ?c5h ?_)
  case c0h =>
    have h := World.ownsRow_lit (base := w.heap.size) (e := 91) (size := 4) w #[] 0 (Nat.le_refl _) (by simp) (by simp)
    simp at h
    exact h
  case c6h => rfl
  case c1h => intro j v hv; simp at hv
  case c2h => intro u hu; cases hu
  case c3h => unfold maxLen; omega
  case c4h => omega
  case c5h => simp
  · intro v' w1 hown hgr _
    obtain ⟨A', cap', rfl⟩ := owns_form hown
    have Hg := Lib.hid hgr
    clear hown hgr
    go_wp2
    go_ret
    refine ⟨A', cap', rfl, fun h => absurd h (by simp), (bel_alloc w _).grown Hg.out (by simp) (fun k e => ?_)⟩
    simp [Value.ownBlock] at e
    omega

set_option maxRecDepth 100000 in
theorem clone_none (cap : Nat) (w : World) : Calls Try.prog 113 #[.slice none 0 cap] w (NewS w 0 []) := by
  have hnil := fun W => Lib.run_eql_slice_nil (P := Try.prog) W 24 91 none 0 cap 0 0 Try.underlying24
  go_enter Try.func113, Try.ntmps113
  go_wp2
  go_ret
  exact ⟨none, 0, rfl, fun h => absurd h (by simp), Below.refl _ _⟩

theorem clone_sl (A : Option Addr) (n cap lo hi : Nat) (ss : List Sl) (w : World) (hn : ss.length = n) (hm : n ≤ 1048576) (h : SlV w lo hi A ss) (hhi : hi ≤ w.heap.size) :
    Calls Try.prog 113 #[.slice A n cap] w (NewS w n ss) := by
  cases hs : ss with
  | nil =>
    subst hs
    simp at hn
    subst hn
    cases A with
    | none => exact clone_none cap w
    | some a => exact clone_zero a cap w
  | cons x t =>
    rw [← hs]
    obtain ⟨g, rfl, _, h2, h3⟩ := h (by rw [hs]; simp)
    exact clone_any g n cap ss w hn hm h3 (by omega)

set_option maxRecDepth 100000 in
set_option maxHeartbeats 1000000 in
theorem unchanged_any (A : Option Addr) (n cap lo hi : Nat) (ss : List Sl) (f l r c : Int) (w : World) (hn : ss.length = n) (hm : n ≤ 1048576) (h : SlV w lo hi A ss) (hhi : hi ≤ w.heap.size) :
    Calls Try.prog 83 #[.agg #[.slice A n cap, .int .i64 f, .int .i64 l, .int .i64 r, .int .i64 c]] w (NewQ w n ss f l r c) := by
  have Hn := Lib.hid hn
  have HS := Lib.hid h
  have Hhi := Lib.hid hhi
  clear h hn hhi
  go_enter Try.func83, Try.ntmps83
  go_wp2_with fail
  have hB0 : Below w.heap.size w ((w.alloc (.cells #[.slice A n cap, .int .i64 f, .int .i64 l, .int .i64 r, .int .i64 c] 26)).alloc (.cells #[.slice none 0 0, .int .i64 0, .int .i64 0, .int .i64 0, .int .i64 0] 26)) := ((Below.refl _ _).alloc (Nat.le_refl _) _).alloc (by simp) _
  refine (clone_sl A n cap lo hi ss _ Hn.out hm (HS.out.below hB0 Hhi.out) (by have := Hhi.out; simp; omega)).mono ?_
  rintro e w1 ⟨A1, c1, rfl, v1, b1⟩
  have K1 : Hid (Blk5 w1 w.heap.size _ _ _ _ _) := Blk5.below (Blk5.alloc (heap_alloc_new w _) _) b1
  have K2 : Hid (Blk5 w1 (w.heap.size + 1) (.slice none 0 0) (.int .i64 0) (.int .i64 0) (.int .i64 0) (.int .i64 0)) := by
    have h := heap_alloc_new (w.alloc (.cells #[.slice A n cap, .int .i64 f, .int .i64 l, .int .i64 r, .int .i64 c] 26)) (.cells #[.slice none 0 0, .int .i64 0, .int .i64 0, .int .i64 0, .int .i64 0] 26)
    simp only [World.size_alloc] at h
    exact Blk5.below h b1
  have B1 := Lib.hid (bel_trans hB0 b1)
  have V1 : Hid (SlV w1 (w.heap.size + 1 + 1) w1.heap.size A1 ss) := by have h := v1; simp only [World.size_alloc] at h; exact h
  have z1 : w.heap.size + 1 < w1.heap.size := K2.out.lt
  clear b1 v1 hB0
  obtain ⟨d0, d1, d2, d3, d4, df⟩ := K1.out.cells
  obtain ⟨e0, e1, e2, e3, e4, ef⟩ := K2.out.cells
  go_wp2_with fail
  refine bodyPost_ret (v := .agg #[.slice A1 n c1, .int .i64 f, .int .i64 l, .int .i64 r, .int .i64 c]) (by simp [results, Try.results83, go_sem, e0, e1, e2, e3, e4]) rfl ⟨A1, c1, rfl, ?_, ?_⟩
  · refine SlV.wide (lo := w.heap.size + 1 + 1) (hi := w1.heap.size) ?_ (by omega) (by simp [World.setCell])
    iterate 6 refine SlV.setCell ?_ (by simp <;> omega) _
    exact V1.out
  · iterate 6 refine Below.setCell ?_ (by simp <;> omega) _
    exact B1.out
end Go.Proofs.Ytpjelojmkmednaa.Que

namespace Go.Proofs.Ytpjelojmkmednaa.Que
open Go.RowKit Go.Deep Base Rng

/-- A whole slot stored. -/
theorem Lk.setSlot {w : World} {b : Nat} {ss : List Sl} {f l r c : Int} (h : Lk w b ss f l r c) {i : Nat} (hi : i < 60) (hn : ss.length = 60) (s : Sl) :
    Lk ((((w.setCell ⟨b, i * 4, none⟩ (.int .i64 s.id)).setCell ⟨b, i * 4 + 1, none⟩ (.int .i64 s.prev)).setCell ⟨b, i * 4 + 2, none⟩ (.int .i64 s.next)).setCell ⟨b, i * 4 + 3, none⟩ (.bool s.used)) b (ss.set i s) f l r c := by
  refine lk_of_row (((((h.row.set (i * 4) _).set (i * 4 + 1) _).set (i * 4 + 2) _).set (i * 4 + 3) _).congr fun o ho => ?_)
  by_cases e : o / 4 = i ∧ o < 240
  · have hs : lkF (ss.set i s) f l r c o = s.at (o % 4) := by rw [lkF, if_pos e.2, e.1, sl_set _ _ _ _ (by omega), if_pos rfl]
    rw [hs]
    have h4 : o % 4 = 0 ∨ o % 4 = 1 ∨ o % 4 = 2 ∨ o % 4 = 3 := by omega
    rcases h4 with h4 | h4 | h4 | h4
    · rw [if_neg (by omega), if_neg (by omega), if_neg (by omega), if_pos (by omega), h4]; rfl
    · rw [if_neg (by omega), if_neg (by omega), if_pos (by omega), h4]; rfl
    · rw [if_neg (by omega), if_pos (by omega), h4]; rfl
    · rw [if_pos (by omega), h4]; rfl
  · rw [if_neg (by omega), if_neg (by omega), if_neg (by omega), if_neg (by omega)]
    unfold lkF
    by_cases h2 : o < 240
    · rw [if_pos h2, if_pos h2, sl_set _ _ _ _ (by omega), if_neg (by omega)]
    · rw [if_neg h2, if_neg h2]

set_option maxRecDepth 100000 in
set_option maxHeartbeats 1000000 in
theorem push_any (b x : Nat) (id f l c : Int) (ss : List Sl) (w : World) (h : Lk w b ss f l (x : Int) c) (hn : ss.length = 60) (hx : x < 60) (hl : l = -1 ∨ ∃ y : Nat, l = (y : Int) ∧ y < 60) (hc : 0 ≤ c ∧ c ≤ 60) :
    Calls Try.prog 84 #[.pointer (some ⟨b, 0, none⟩), .int .i64 id] w fun e w' => e = .returned (.int .i64 (x : Int)) ∧ Lk w' b (pushS ss l (x : Int) id) (if l = -1 then (x : Int) else f) (x : Int) (sl ss x).next (c + 1) ∧ Turns b (b + 1) w w' := by
  obtain ⟨n0, n1, n2, n3, nf⟩ := h.nums
  obtain ⟨c0, c1, c2, c3⟩ := h.slot hx
  have hb := h.lt
  have hx0 : (0 : Int) ≤ (x : Int) := by omega
  have hx1 : (x : Int) < 60 := by omega
  have H1 := Lib.hid (h.setFree (sl ss x).next)
  have T1 : Hid (Turns b (b + 1) w (w.setCell ⟨b, 242, none⟩ (.int .i64 (sl ss x).next))) := (Turns.of_below (Below.refl _ _)).setCell (by simp) (by simp) _
  have Hn := Lib.hid hn
  have Hl := Lib.hid hl
  have Hc := Lib.hid hc
  obtain ⟨nx, hnx⟩ : ∃ nx, (sl ss x).next = nx := ⟨_, rfl⟩
  rw [hnx] at c2 H1 T1
  have Hnx := Lib.hid hnx
  clear hnx h hn hl hc
  go_enter Try.func84, Try.ntmps84
  go_wp2_with fail
  obtain ⟨W1, hW1⟩ : ∃ W1, w.setCell ⟨b, 242, none⟩ (.int .i64 nx) = W1 := ⟨_, rfl⟩
  rw [hW1] at H1 T1 ⊢
  clear hW1 n0 n1 n2 n3 nf c0 c1 c2 c3
  obtain ⟨n0, n1, n2, n3, nf⟩ := H1.out.nums
  obtain ⟨c0, c1, c2, c3⟩ := H1.out.slot hx
  have w1 : IntKind.i64.wrap (c + 1) = c + 1 := IntWalk.i64_in _ (by have := Hc.out; omega)
  rcases Hl.out with rfl | ⟨y, rfl, hy⟩
  · clear Hl
    have HE := Lib.hid ((((H1.out.setSlot hx Hn.out ⟨id, -1, -1, true⟩).setFirst (x : Int)).setLast (x : Int)).setCount (c + 1)).drew
    have TE : Hid (Turns b (b + 1) w (((((((W1.setCell ⟨b, x * 4, none⟩ (.int .i64 id)).setCell ⟨b, x * 4 + 1, none⟩ (.int .i64 (-1))).setCell ⟨b, x * 4 + 2, none⟩ (.int .i64 (-1))).setCell ⟨b, x * 4 + 3, none⟩ (.bool true)).setCell ⟨b, 240, none⟩ (.int .i64 (x : Int))).setCell ⟨b, 241, none⟩ (.int .i64 (x : Int))).setCell ⟨b, 243, none⟩ (.int .i64 (c + 1))).drew) := by
      refine tdrew ?_
      iterate 7 refine Turns.setCell ?_ (by simp) (by simp) _
      exact T1.out
    go_still_tail 11, (by kernel_rfl)
    change wpList _ _ _ _ _ W1.drew
    go_wp2_with fail
    go_ret
    refine ⟨rfl, ?_, TE.out⟩
    have he := HE.out
    rw [Hnx.out]
    unfold pushS setNext
    simpa using he
  · have hy0 : (0 : Int) ≤ (y : Int) := by omega
    have hy1 : (y : Int) < 60 := by omega
    have hyn : ((y : Int) == -1) = false := by simp
    clear Hl
    have HE := Lib.hid (H1.out.setSlot hx Hn.out ⟨id, (y : Int), -1, true⟩).drew
    have TE : Hid (Turns b (b + 1) w ((((W1.setCell ⟨b, x * 4, none⟩ (.int .i64 id)).setCell ⟨b, x * 4 + 1, none⟩ (.int .i64 (y : Int))).setCell ⟨b, x * 4 + 2, none⟩ (.int .i64 (-1))).setCell ⟨b, x * 4 + 3, none⟩ (.bool true)).drew) := by
      refine tdrew ?_
      iterate 4 refine Turns.setCell ?_ (by simp) (by simp) _
      exact T1.out
    go_still_tail 11, (by kernel_rfl)
    change wpList _ _ _ _ _ W1.drew
    go_wp2_with fail
    obtain ⟨W2, hW2⟩ : ∃ W2, ((((W1.setCell ⟨b, x * 4, none⟩ (.int .i64 id)).setCell ⟨b, x * 4 + 1, none⟩ (.int .i64 (y : Int))).setCell ⟨b, x * 4 + 2, none⟩ (.int .i64 (-1))).setCell ⟨b, x * 4 + 3, none⟩ (.bool true)).drew = W2 := ⟨_, rfl⟩
    rw [hW2] at HE TE ⊢
    clear hW2 n0 n1 n2 n3 nf c0 c1 c2 c3
    obtain ⟨n0, n1, n2, n3, nf⟩ := HE.out.nums
    obtain ⟨c0, c1, c2, c3⟩ := HE.out.slot hy
    have hls : (ss.set x ⟨id, (y : Int), -1, true⟩).length = 60 := by rw [List.length_set]; exact Hn.out
    have HF := Lib.hid (((HE.out.next hy hls (x : Int)).drew.setLast (x : Int)).setCount (c + 1))
    have TF : Hid (Turns b (b + 1) w (((W2.setCell ⟨b, y * 4 + 2, none⟩ (.int .i64 (x : Int))).setCell ⟨b, 241, none⟩ (.int .i64 (x : Int))).setCell ⟨b, 243, none⟩ (.int .i64 (c + 1))).drew) := by
      refine tdrew ?_
      iterate 3 refine Turns.setCell ?_ (by simp) (by simp) _
      exact TE.out
    clear hls
    generalize sl (ss.set x ⟨id, (y : Int), -1, true⟩) y = sy at c0 c1 c2 c3
    go_still_tail 10, (by kernel_rfl)
    change wpList _ _ _ _ _ W2.drew
    go_wp2_with fail
    go_ret
    refine ⟨rfl, ?_, TF.out⟩
    have he := HF.out
    rw [Hnx.out]
    unfold pushS setNext
    rw [if_neg (by omega)]
    simp only [Int.toNat_natCast]
    exact he
end Go.Proofs.Ytpjelojmkmednaa.Que
