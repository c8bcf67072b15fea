/- What PlaceOf answers, the program's and the reference's. The copy of any slice of slots, and what unchanged answers. What push does to the program's form. What the program's PushBack answers. What the reference's PushBack answers. The reference's PushBack where it pushes. -/
import Derived.Test.YtehdbdolhkflcaaNq2
import Derived.StillTailTactics
namespace Go.Proofs.Ytehdbdolhkflcaa.Que
open Go.RowKit Go.Deep Base Rng

def usOf (ss : List Sl) (f : Int) : List Nat := match usedW ss 61 f (-1) [] with
  | some (us, _) => us
  | none => []
theorem val_us {ss : List Sl} {f l r c : Int} {us fs : List Nat} (v : Val ss f l r c us fs) : usOf ss f = us := by
  have hf := v.full
  rw [List.length_append] at hf
  have h1 := usedW_of (f := 61) (vis := []) v.seg (fun x hx => v.lt x (by simp [hx])) (by simpa using v.ids) (by omega)
  unfold usOf
  rw [h1]
  simp
def placeA (ss : List Sl) (f l r c id : Int) : Int := if okQ ss f l r c = true then placeF ss (usOf ss f) id else -1
theorem placeA_no {ss : List Sl} {f l r c : Int} (id : Int) (h : okQ ss f l r c = false) : placeA ss f l r c id = -1 := by unfold placeA; rw [if_neg (by rw [h]; simp)]
theorem placeA_val {ss : List Sl} {f l r c : Int} {us fs : List Nat} (id : Int) (v : Val ss f l r c us fs) : placeA ss f l r c id = placeF ss us id := by unfold placeA; rw [if_pos (val_ok v), val_us v]

def headOf : List Nat → Int
  | [] => -1
  | x :: _ => (x : Int)
theorem seg_head {ss : List Sl} : ∀ {l : List Nat} {pr p m : Int}, Seg ss pr p l m (-1) → p = headOf l
  | [], _, _, _, h => h.2.symm
  | _ :: _, _, _, _, h => h.1
theorem seg_next {ss : List Sl} {pre suf : List Nat} {x : Nat} {pr p m : Int} (h : Seg ss pr p (pre ++ x :: suf) m (-1)) : (sl ss x).next = headOf suf := by
  obtain ⟨_, _, _, h2⟩ := (seg_append _ _ _ _ _ _ _).1 h
  exact seg_head h2.2.2.2
theorem find_here {ss : List Sl} {pre suf : List Nat} {x : Nat} {id : Int} (h : ∀ y ∈ pre, (sl ss y).id ≠ id) (hx : (sl ss x).id = id) : placeF ss (pre ++ x :: suf) id = (x : Int) := by
  have : (pre ++ x :: suf).find? (fun x => (sl ss x).id == id) = some x := by
    rw [List.find?_append, List.find?_eq_none.2 (fun y hy => by simpa using h y hy)]
    simp [hx]
  unfold placeF; rw [this]
theorem find_not {ss : List Sl} {pre : List Nat} {id : Int} (h : ∀ y ∈ pre, (sl ss y).id ≠ id) : placeF ss pre id = -1 := by
  unfold placeF; rw [List.find?_eq_none.2 (fun y hy => by simpa using h y hy)]
/-- How far a place is from the end. -/
def left (us : List Nat) (p : Int) : Nat := if p = -1 then 0 else us.length - us.idxOf p.toNat
theorem left_at {pre suf : List Nat} {x : Nat} (h : (pre ++ x :: suf).Nodup) : left (pre ++ x :: suf) (x : Int) = suf.length + 1 := by
  have hx : x ∉ pre := fun hm => (List.nodup_append.1 h).2.2 x hm x (by simp) rfl
  unfold left
  rw [if_neg (by omega), Int.toNat_natCast, List.idxOf_append, if_neg hx, List.idxOf_cons_self, List.length_append, List.length_cons]
  omega
theorem left_less {pre suf : List Nat} {x : Nat} (h : (pre ++ x :: suf).Nodup) : left (pre ++ x :: suf) (headOf suf) < left (pre ++ x :: suf) (x : Int) := by
  rw [left_at h]
  cases suf with
  | nil => unfold left headOf; rw [if_pos rfl]; simp
  | cons y s =>
    have h' : ((pre ++ [x]) ++ y :: s).Nodup := by simpa using h
    have := left_at h'
    rw [show pre ++ [x] ++ y :: s = pre ++ x :: y :: s from by simp] at this
    show left _ (y : Int) < _
    rw [this]; simp


end Go.Proofs.Ytehdbdolhkflcaa.Que

namespace Go.Proofs.Ytehdbdolhkflcaa.Que
open Go.RowKit Go.Deep Base Rng

set_option maxRecDepth 100000 in
set_option maxHeartbeats 400000 in
theorem clone_zero (a : Addr) (cap : Nat) (w : World) : Calls Try.prog 121 #[.slice (some a) 0 cap] w (NewS w 0 []) := by
  obtain ⟨i0, hi0, hz0, hz1, hz2⟩ := info_parts infoSlot
  have Hi0 := Lib.hid hi0
  have Hz0 := Lib.hid hz0
  have Hz1 := Lib.hid hz1
  have Hz2 := Lib.hid hz2
  clear hi0 hz0 hz1 hz2
  have hnil := fun W => Lib.run_eql_slice_nil (P := Try.prog) W 26 122 (some a) 0 cap 0 0 Try.underlying26
  go_enter Try.func121, Try.ntmps121
  go_wp2_with (at_builtin; refine wpList_append_own _ rfl _ _ 26 rfl w.heap.size 122 i0 _ 4 32 Try.underlying26 Hi0.out Hz0.out Hz1.out Hz2.out rfl (by decide) _ 0 [] rfl ?c0h a 0 cap [] rfl ?c6h ?c1h ?c2h ?c3h ?c4h ?c5h ?_)
  case c0h =>
    have h := World.ownsRow_lit (base := w.heap.size) (e := 122) (size := 4) w #[] 0 (Nat.le_refl _) (by simp) (by simp)
    simp at h
    exact h
  case c6h => rfl
  case c1h => intro j v hv; simp at hv
  case c2h => intro u hu; cases hu
  case c3h => unfold maxLen; omega
  case c4h => omega
  case c5h => simp
  · intro v' w1 hown hgr _
    obtain ⟨A', cap', rfl⟩ := owns_form hown
    have Hg := Lib.hid hgr
    clear hown hgr
    go_wp2
    go_ret
    refine ⟨A', cap', rfl, fun h => absurd h (by simp), (bel_alloc w _).grown Hg.out (by simp) (fun k e => ?_)⟩
    simp [Value.ownBlock] at e
    omega

set_option maxRecDepth 100000 in
theorem clone_none (cap : Nat) (w : World) : Calls Try.prog 121 #[.slice none 0 cap] w (NewS w 0 []) := by
  have hnil := fun W => Lib.run_eql_slice_nil (P := Try.prog) W 26 122 none 0 cap 0 0 Try.underlying26
  go_enter Try.func121, Try.ntmps121
  go_wp2
  go_ret
  exact ⟨none, 0, rfl, fun h => absurd h (by simp), Below.refl _ _⟩

theorem clone_sl (A : Option Addr) (n cap lo hi : Nat) (ss : List Sl) (w : World) (hn : ss.length = n) (hm : n ≤ 1048576) (h : SlV w lo hi A ss) (hhi : hi ≤ w.heap.size) :
    Calls Try.prog 121 #[.slice A n cap] w (NewS w n ss) := by
  cases hs : ss with
  | nil =>
    subst hs
    simp at hn
    subst hn
    cases A with
    | none => exact clone_none cap w
    | some a => exact clone_zero a cap w
  | cons x t =>
    rw [← hs]
    obtain ⟨g, rfl, _, h2, h3⟩ := h (by rw [hs]; simp)
    exact clone_any g n cap ss w hn hm h3 (by omega)


end Go.Proofs.Ytehdbdolhkflcaa.Que

namespace Go.Proofs.Ytehdbdolhkflcaa.Que
open Go.RowKit Go.Deep Base Rng

/-- A whole slot stored. -/
theorem Lk.setSlot {w : World} {b : Nat} {ss : List Sl} {f l r c : Int} (h : Lk w b ss f l r c) {i : Nat} (hi : i < 60) (hn : ss.length = 60) (s : Sl) :
    Lk ((((w.setCell ⟨b, i * 4, none⟩ (.int .i64 s.id)).setCell ⟨b, i * 4 + 1, none⟩ (.int .i64 s.prev)).setCell ⟨b, i * 4 + 2, none⟩ (.int .i64 s.next)).setCell ⟨b, i * 4 + 3, none⟩ (.bool s.used)) b (ss.set i s) f l r c := by
  refine lk_of_row (((((h.row.set (i * 4) _).set (i * 4 + 1) _).set (i * 4 + 2) _).set (i * 4 + 3) _).congr fun o ho => ?_)
  by_cases e : o / 4 = i ∧ o < 240
  · have hs : lkF (ss.set i s) f l r c o = s.at (o % 4) := by rw [lkF, if_pos e.2, e.1, sl_set _ _ _ _ (by omega), if_pos rfl]
    rw [hs]
    have h4 : o % 4 = 0 ∨ o % 4 = 1 ∨ o % 4 = 2 ∨ o % 4 = 3 := by omega
    rcases h4 with h4 | h4 | h4 | h4
    · rw [if_neg (by omega), if_neg (by omega), if_neg (by omega), if_pos (by omega), h4]; rfl
    · rw [if_neg (by omega), if_neg (by omega), if_pos (by omega), h4]; rfl
    · rw [if_neg (by omega), if_pos (by omega), h4]; rfl
    · rw [if_pos (by omega), h4]; rfl
  · rw [if_neg (by omega), if_neg (by omega), if_neg (by omega), if_neg (by omega)]
    unfold lkF
    by_cases h2 : o < 240
    · rw [if_pos h2, if_pos h2, sl_set _ _ _ _ (by omega), if_neg (by omega)]
    · rw [if_neg h2, if_neg h2]


end Go.Proofs.Ytehdbdolhkflcaa.Que

namespace Go.Proofs.Ytehdbdolhkflcaa.Que
open Go.RowKit Go.Deep Base Rng

/-- A new queue comes back, and a second result. -/
def NewQ2 (w : World) (n : Nat) (ss : List Sl) (f l r c : Int) (v : Value) (e : Ending) (w' : World) : Prop :=
  ∃ A cap, e = .returned (.tuple #[.agg #[.slice A n cap, .int .i64 f, .int .i64 l, .int .i64 r, .int .i64 c], v]) ∧ SlV w' w.heap.size w'.heap.size A ss ∧ Below w.heap.size w w'

def canPush (ss : List Sl) (f l r c id : Int) : Bool := okQ ss f l r c && !(r == -1) && idB id && (placeA ss f l r c id == -1)

def PushEnd (w : World) (n : Nat) (ss : List Sl) (f l r c id : Int) (e : Ending) (w' : World) : Prop :=
  if canPush ss f l r c id = true then NewQ2 w n (pushS ss l r id) (if l = -1 then r else f) r (sl ss r.toNat).next (c + 1) (.int .i64 r) e w'
  else NewQ2 w n ss f l r c (.int .i64 (-1)) e w'

theorem pushEnd_no {w : World} {n : Nat} {ss : List Sl} {f l r c id : Int} {e : Ending} {w' : World} (h : canPush ss f l r c id = false) (k : NewQ2 w n ss f l r c (.int .i64 (-1)) e w') : PushEnd w n ss f l r c id e w' := by
  unfold PushEnd; rw [if_neg (by rw [h]; simp)]; exact k
theorem pushEnd_yes {w : World} {n : Nat} {ss : List Sl} {f l r c id : Int} {e : Ending} {w' : World} (h : canPush ss f l r c id = true) (k : NewQ2 w n (pushS ss l r id) (if l = -1 then r else f) r (sl ss r.toNat).next (c + 1) (.int .i64 r) e w') : PushEnd w n ss f l r c id e w' := by
  unfold PushEnd; rw [if_pos h]; exact k


end Go.Proofs.Ytehdbdolhkflcaa.Que

namespace Go.Proofs.Ytehdbdolhkflcaa.Que
open Go.RowKit Go.Deep Base Rng

theorem Rd.far {w : World} {b : Nat} {ss : List Sl} (h : Rd w b ss) {p : Addr} (hp : b ≠ p.block) (u : Value) : Rd (w.setCell p u) b ss := h.of_block (Below.heap_setCell w p u b hp)
theorem Rd.slot4 {w : World} {b : Nat} {ss : List Sl} (h : Rd w b ss) {i : Nat} (s : Sl) : Rd (set4 w b i s) b (ss.set i s) := by
  have h0 : RdF w b ss.length (fun i => ss.getD i zSl) := h
  intro j hj
  rw [List.length_set] at hj
  have h1 := h0.set i s j hj
  have he : (ss.set i s).getD j zSl = if j = i then s else ss.getD j zSl := by
    simp only [List.getD_eq_getElem?_getD, List.getElem?_set]
    by_cases e : i = j
    · subst e; simp [hj]
    · have e' : ¬ j = i := fun h => e h.symm
      simp [e, e']
  rw [he]
  exact h1
theorem Rd.nextv {w : World} {b : Nat} {ss : List Sl} (h : Rd w b ss) {i : Nat} (v : Int) : Rd (w.setCell ⟨b, i * 4 + 2, none⟩ (.int .i64 v)) b (ss.set i (wNext (sl ss i) v)) := by
  intro j hj
  rw [List.length_set] at hj
  obtain ⟨h0, h1, h2, h3, h4⟩ := h j hj
  have hs : ∀ {o : Nat} {u : Value}, w.cell? ⟨b, o, none⟩ = some u → (w.cell? ⟨b, o, none⟩).isSome = true := fun h => by rw [h]; rfl
  rw [cell_set (hs h0), cell_set (hs h1), cell_set (hs h2), cell_set (hs h3), if_neg (by omega), if_neg (by omega), if_neg (show ¬ j * 4 + 3 = i * 4 + 2 by omega)]
  by_cases e : i = j
  · subst e
    have he : (ss.set i (wNext (sl ss i) v)).getD i zSl = wNext (sl ss i) v := by simp [List.getD_eq_getElem?_getD, hj]
    rw [he, if_pos rfl]
    exact ⟨h0, h1, rfl, h3, fun k => by rw [World.frozen?_setCell]; exact h4 k⟩
  · have he : (ss.set i (wNext (sl ss i) v)).getD j zSl = ss.getD j zSl := by simp [List.getD_eq_getElem?_getD, e]
    rw [he, if_neg (by omega)]
    exact ⟨h0, h1, h2, h3, fun k => by rw [World.frozen?_setCell]; exact h4 k⟩


end Go.Proofs.Ytehdbdolhkflcaa.Que

namespace Go.Proofs.Ytehdbdolhkflcaa.Que
open Go.RowKit Go.Deep Base Rng


end Go.Proofs.Ytehdbdolhkflcaa.Que
