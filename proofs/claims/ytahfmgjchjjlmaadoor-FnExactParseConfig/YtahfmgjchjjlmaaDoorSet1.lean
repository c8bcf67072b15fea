/- The program's setField: a line of a configuration. -/
import Derived.Test.YtahfmgjchjjlmaaDoorCt2
import Derived.Test.YtahfmgjchjjlmaaDoorCut1
import Derived.Test.YtahfmgjchjjlmaaDoorPn1
namespace Go.Proofs.YtahfmgjchjjlmaaDoor.Fm
open Go.RowKit Go.Deep Base Cf Ct Num Parts

def upd (c : Nat → Int) (i : Nat) (n : Int) : Nat → Int := fun j => if j = i then n else c j
def updB (d : Nat → Bool) (i : Nat) : Nat → Bool := fun j => if j = i then true else d j
def fieldAt (n : List UInt8) : Option Nat := (List.range 14).find? fun i => (nmB i).data.toList == n

/-- A line that sets a field which is not set yet. -/
def setL (c : Nat → Int) (d : Nat → Bool) (line : List UInt8) : Option ((Nat → Int) × (Nat → Bool)) :=
  match parts 61 line with
  | [n, v] => if (readT v).2 = true then match fieldAt n with
    | some i => if d i = true then none else some (upd c i (readT v).1, updB d i)
    | none => none
    else none
  | _ => none

theorem fieldAt_some {i : Nat} (h : i < 14) : fieldAt (nmB i).data.toList = some i := by
  have hall : ((List.range 14).all fun i => fieldAt (nmB i).data.toList == some i) = true := by kernel_rfl
  exact beq_iff_eq.1 (List.all_eq_true.1 hall i (List.mem_range.2 h))

theorem fieldAt_of {n : List UInt8} {i : Nat} (h : fieldAt n = some i) : i < 14 ∧ (nmB i).data.toList = n := by
  have h1 := List.find?_some h
  have h2 := List.mem_of_find?_eq_some h
  exact ⟨List.mem_range.1 h2, beq_iff_eq.1 h1⟩

structure Turn (b mb : Nat) (w w' : World) : Prop where
  os : w'.os = w.os
  tape : w'.tape = w.tape
  output : w'.output = w.output
  size : w.heap.size ≤ w'.heap.size
  block : ∀ k, k < w.heap.size → k ≠ b → k ≠ mb → w'.heap[k]? = w.heap[k]?

theorem Turn.of_below {b mb : Nat} {w w' : World} (h : Below w.heap.size w w') : Turn b mb w w' := ⟨h.os, h.tape, h.output, h.size, fun k hk _ _ => h.block k hk⟩
theorem Turn.trans {b mb : Nat} {w v u : World} (h : Turn b mb w v) (g : Turn b mb v u) : Turn b mb w u :=
  ⟨g.os.trans h.os, g.tape.trans h.tape, g.output.trans h.output, Nat.le_trans h.size g.size, fun k hk h1 h2 => (g.block k (Nat.lt_of_lt_of_le hk h.size) h1 h2).trans (h.block k hk h1 h2)⟩
theorem Turn.below {b mb : Nat} {base w w' : World} (h : Turn b mb w w') (hb : Below base.heap.size base w) (h1 : base.heap.size ≤ b) (h2 : base.heap.size ≤ mb) : Below base.heap.size base w' :=
  ⟨h.os.trans hb.os, h.tape.trans hb.tape, h.output.trans hb.output, Nat.le_trans hb.size h.size, fun k hk => (h.block k (Nat.lt_of_lt_of_le hk hb.size) (by omega) (by omega)).trans (hb.block k hk)⟩

/-- The configuration as it is being filled, and the map of the fields that are not set yet. -/
def St (w : World) (mb b : Nat) (c : Nat → Int) (d : Nat → Bool) : Prop :=
  ∃ l, Fm w mb b l ∧ w.heap[b]? = some (.cells #[.int .i64 (c 0), .int .i64 (c 1), .int .i64 (c 2), .int .i64 (c 3), .int .i64 (c 4), .int .i64 (c 5), .int .i64 (c 6), .int .i64 (c 7), .int .i64 (c 8), .int .i64 (c 9), .int .i64 (c 10), .int .i64 (c 11), .int .i64 (c 12), .int .i64 (c 13)] 26 (0, 0)) ∧ (∀ i, i ∈ l ↔ i < 14 ∧ d i = false) ∧ l.Nodup

theorem St.below {w w' : World} {mb b : Nat} {c : Nat → Int} {d : Nat → Bool} (h : St w mb b c d) (hb : Below w.heap.size w w') : St w' mb b c d := by
  obtain ⟨l, h1, h2, h3, h4⟩ := h
  exact ⟨l, h1.of_block (hb.block _ h1.lt), (hb.block _ (Cv.row_lt h2)).trans h2, h3, h4⟩

theorem heap_set {w : World} {g : Nat} {cs : Array Value} {t : TypeId} (h : w.heap[g]? = some (.cells cs t (0, 0))) (o : Nat) (v : Value) : (w.setCell ⟨g, o, none⟩ v).heap[g]? = some (.cells (cs.setIfInBounds o v) t (0, 0)) := by
  simp [World.setCell, Array.getElem?_modify, h]

theorem row_upd {W : World} {b : Nat} {c : Nat → Int} {t : TypeId} (h : W.heap[b]? = some (.cells #[.int .i64 (c 0), .int .i64 (c 1), .int .i64 (c 2), .int .i64 (c 3), .int .i64 (c 4), .int .i64 (c 5), .int .i64 (c 6), .int .i64 (c 7), .int .i64 (c 8), .int .i64 (c 9), .int .i64 (c 10), .int .i64 (c 11), .int .i64 (c 12), .int .i64 (c 13)] t (0, 0))) (i : Nat) (hi : i < 14) (n : Int) {u : Nat → Int} (hu : u = upd c i n) : (W.setCell ⟨b, i, none⟩ (.int .i64 n)).heap[b]? = some (.cells #[.int .i64 (u 0), .int .i64 (u 1), .int .i64 (u 2), .int .i64 (u 3), .int .i64 (u 4), .int .i64 (u 5), .int .i64 (u 6), .int .i64 (u 7), .int .i64 (u 8), .int .i64 (u 9), .int .i64 (u 10), .int .i64 (u 11), .int .i64 (u 12), .int .i64 (u 13)] t (0, 0)) := by
  subst hu
  rw [heap_set h]
  match i, hi with
  | 0, _ | 1, _ | 2, _ | 3, _ | 4, _ | 5, _ | 6, _ | 7, _ | 8, _ | 9, _ | 10, _ | 11, _ | 12, _ | 13, _ => rfl

theorem readT_nil : readT [] = (0, false) := rfl

def SetEnd (c : Nat → Int) (d : Nat → Bool) (line : List UInt8) (mb b : Nat) (w : World) (e : Ending) (w' : World) : Prop :=
  (setL c d line = none ∧ e = .returned (.bool false) ∧ Turn b mb w w') ∨ (∃ c' d', setL c d line = some (c', d') ∧ e = .returned (.bool true) ∧ St w' mb b c' d' ∧ Turn b mb w w')

set_option maxRecDepth 100000 in
set_option maxHeartbeats 1000000 in
theorem setField_nil {s nB vB : ByteArray} {f : Bool} {mb b : Nat} {l : List Nat} (w : World) (hv : vB.size ≤ 1048576) (ht : Tab w) (he : Errs w) (hF : Fm w mb b l)
    (hcut : ∀ W, Calls Tryd.prog 41 #[.string s, .string ⟨#[61]⟩] W fun e w' => e = .returned (.tuple #[.string nB, .string vB, .bool f]) ∧ Below W.heap.size W w')
    (hn : ∀ y, y ∈ l → nmB y ≠ nB) : Calls Tryd.prog 33 #[.map (some mb), .string s] w fun e w' => e = .returned (.bool false) ∧ Below w.heap.size w w' := by
  have HT := Lib.hid ht
  have HE := Lib.hid he
  have HF := Lib.hid hF
  have HN := Lib.hid hn
  have HC := Lib.hid hcut
  clear ht he hF hn hcut
  go_enter Tryd.func33, Tryd.ntmps33
  go_wp2_with fail
  refine (HC.out _).mono ?_
  rintro e w1 ⟨rfl, b1⟩
  have B := Lib.hid b1
  have hl := look_no (HF.out.of_block (b1.block _ HF.out.lt)) HN.out
  clear b1
  go_wp2_with fail
  refine (parseNumber_any vB _ hv (HT.out.below B.out) (HE.out.below B.out)).mono ?_
  rintro e w2 ⟨rfl, b2⟩
  replace B := Lib.hid (bel_trans B.out b2)
  clear b2 hl
  generalize numV vB.data.toList = nv
  generalize (readT vB.data.toList).2 = ok
  go_wp2
  go_ret
  exact ⟨rfl, B.out⟩

set_option maxRecDepth 100000 in
set_option maxHeartbeats 1000000 in
theorem setField_bad {s vB : ByteArray} {f : Bool} {mb b x : Nat} {l : List Nat} (w : World) (hv : vB.size ≤ 1048576) (ht : Tab w) (he : Errs w) (hF : Fm w mb b l) (hx : x ∈ l) (hl : ∀ y, y ∈ l → y < 14)
    (hcut : ∀ W, Calls Tryd.prog 41 #[.string s, .string ⟨#[61]⟩] W fun e w' => e = .returned (.tuple #[.string (nmB x), .string vB, .bool f]) ∧ Below W.heap.size W w')
    (hn : (readT vB.data.toList).2 = false) : Calls Tryd.prog 33 #[.map (some mb), .string s] w fun e w' => e = .returned (.bool false) ∧ Below w.heap.size w w' := by
  have HT := Lib.hid ht
  have HE := Lib.hid he
  have HF := Lib.hid hF
  have HN := Lib.hid hn
  have HC := Lib.hid hcut
  have HX := Lib.hid hx
  have HL := Lib.hid hl
  clear ht he hF hn hcut hx hl
  go_enter Tryd.func33, Tryd.ntmps33
  go_wp2_with fail
  refine (HC.out _).mono ?_
  rintro e w1 ⟨rfl, b1⟩
  have B := Lib.hid b1
  have hl := look_yes (HF.out.of_block (b1.block _ HF.out.lt)) HX.out HL.out
  change _ = Result.ok (Value.pointer (some ⟨b, x, none⟩)) w1 at hl
  clear b1
  generalize nmB x = nm at hl ⊢
  go_wp2_with fail
  refine (parseNumber_any vB _ hv (HT.out.below B.out) (HE.out.below B.out)).mono ?_
  rintro e w2 ⟨rfl, b2⟩
  rw [HN.out]
  replace B := Lib.hid (bel_trans B.out b2)
  clear b2 hl
  generalize numV vB.data.toList = nv
  go_wp2
  go_ret
  exact ⟨rfl, B.out⟩

def OkEnd (c : Nat → Int) (d : Nat → Bool) (x : Nat) (n : Int) (mb b : Nat) (w : World) (e : Ending) (w' : World) : Prop := e = .returned (.bool true) ∧ St w' mb b (upd c x n) (updB d x) ∧ Turn b mb w w'

theorem St.at {w : World} {mb b : Nat} {c : Nat → Int} {d : Nat → Bool} (h : St w mb b c d) (x : Nat) (hx : x < 14) (hd : d x = false) :
    (Instr.lookup 39 (.map (some mb)) (.string (nmB x)) false).run Tryd.prog w = .ok (.pointer (some ⟨b, x, none⟩)) w ∧ w.cell? ⟨b, x, none⟩ = some (.int .i64 (c x)) ∧ w.frozen? ⟨b, x, none⟩ = false := by
  obtain ⟨l, h1, h2, h3, h4⟩ := h
  exact ⟨look_yes h1 ((h3 x).2 ⟨hx, hd⟩) fun y hy => ((h3 y).1 hy).1, Cv.row_at h2 x hx, frozen_of_row _ _ x _ _ h2⟩

theorem St.strike {w : World} {mb b : Nat} {c : Nat → Int} {d : Nat → Bool} (h : St w mb b c d) (x : Nat) (hx : x < 14) (hd : d x = false) (n : Int) :
    ∃ o, (Builtin.delete_ #[39, 9] 0 #[.map (some mb), .string (nmB x)]).run Tryd.prog (w.setCell ⟨b, x, none⟩ (.int .i64 n)) = .ok (.tuple #[]) ((w.setCell ⟨b, x, none⟩ (.int .i64 n)).putObj mb o) ∧ St ((w.setCell ⟨b, x, none⟩ (.int .i64 n)).putObj mb o) mb b (upd c x n) (updB d x) ∧ Turn b mb w ((w.setCell ⟨b, x, none⟩ (.int .i64 n)).putObj mb o) := by
  obtain ⟨l, h1, h2, h3, h4⟩ := h
  have hne : mb ≠ b := by
    rintro rfl
    obtain ⟨es, q, h5, _⟩ := h1
    rw [h2] at h5
    cases h5
  have h6 : Fm (w.setCell ⟨b, x, none⟩ (.int .i64 n)) mb b l := h1.of_block (heap_setCell_other w _ _ _ hne)
  obtain ⟨o, h7, h8⟩ := del_yes h6 ((h3 x).2 ⟨hx, hd⟩) fun y hy => ((h3 y).1 hy).1
  refine ⟨o, h7, ⟨l.erase x, h8, ?_, fun i => ?_, h4.erase x⟩, ⟨rfl, rfl, rfl, by simp [World.putObj, World.setCell], fun k hk hkb hkm => (World.putObj_heap_other hkm).trans (heap_setCell_other w _ _ _ hkb)⟩⟩
  · rw [World.putObj_heap_other (Ne.symm hne)]
    exact row_upd h2 x hx n rfl
  · rw [h4.mem_erase_iff, h3 i]
    unfold updB
    by_cases e : i = x
    · subst e; simp
    · simp [e]

set_option maxRecDepth 100000 in
set_option maxHeartbeats 1000000 in
theorem setField_ok {s vB : ByteArray} {f : Bool} {mb b x : Nat} {c : Nat → Int} {d : Nat → Bool} (w : World) (hv : vB.size ≤ 1048576) (ht : Tab w) (he : Errs w) (hS : St w mb b c d) (hx : x < 14) (hd : d x = false)
    (hcut : ∀ W, Calls Tryd.prog 41 #[.string s, .string ⟨#[61]⟩] W fun e w' => e = .returned (.tuple #[.string (nmB x), .string vB, .bool f]) ∧ Below W.heap.size W w')
    {nv : Int} (hr : readT vB.data.toList = (nv, true)) : Calls Tryd.prog 33 #[.map (some mb), .string s] w (OkEnd c d x nv mb b w) := by
  have hn : (readT vB.data.toList).2 = true := by rw [hr]
  have hnv : numV vB.data.toList = nv := by unfold numV; rw [hr]; rfl
  have HT := Lib.hid ht
  have HE := Lib.hid he
  have HS := Lib.hid hS
  have HC := Lib.hid hcut
  have HN := Lib.hid hn
  have HV := Lib.hid hnv
  clear ht he hS hcut hn hnv hr
  go_enter Tryd.func33, Tryd.ntmps33
  go_wp2_with fail
  refine (HC.out _).mono ?_
  rintro e w1 ⟨rfl, b1⟩
  have B := Lib.hid b1
  have hl := ((HS.out.below b1).at x hx hd).1
  clear b1
  have HS2 := Lib.hid fun W (hW : St W mb b c d) => hW.strike x hx hd nv
  have HA := Lib.hid fun W (hW : St W mb b c d) => hW.at x hx hd
  generalize nmB x = nm at hl HS2 HA ⊢
  go_wp2_with fail
  refine (parseNumber_any vB _ hv (HT.out.below B.out) (HE.out.below B.out)).mono ?_
  rintro e w2 ⟨rfl, b2⟩
  rw [HN.out, HV.out]
  replace B := Lib.hid (bel_trans B.out b2)
  have HS3 := Lib.hid (HS.out.below B.out)
  obtain ⟨-, hc, hf⟩ := HA.out _ HS3.out
  obtain ⟨o, hdel, hst, htu⟩ := HS2.out _ HS3.out
  have HST := Lib.hid hst
  have HTU := Lib.hid htu
  clear b2 hl hst htu HS2 HA
  go_wp2
  go_ret
  exact ⟨rfl, HST.out, (Turn.of_below B.out).trans HTU.out⟩

theorem read_no_eq {v : List UInt8} (h : (readT v).2 = true) : ∀ b, b ∈ v → b ≠ 61 := by
  obtain ⟨_, _, h3⟩ := atoi_of_read h
  intro b hb
  rw [← h3] at hb
  rcases Int.le_total 0 (readT v).1 with h0 | h0
  · obtain ⟨m, hm⟩ := Int.eq_ofNat_of_zero_le h0
    rw [hm, Lib.itoa_nonneg] at hb
    have := digits_mem _ _ hb
    rintro rfl
    revert this
    decide
  · obtain ⟨m, hm⟩ : ∃ m : Nat, (readT v).1 = -(m : Int) := ⟨(readT v).1.natAbs, by omega⟩
    rw [hm] at hb
    have hd : b ∈ Lib.decDigits m → b ≠ 61 := fun h => by
      have := digits_mem _ _ h
      rintro rfl
      revert this
      decide
    rcases Nat.eq_zero_or_pos m with rfl | hp
    · exact hd hb
    · rw [Lib.itoa_neg m hp] at hb
      rcases List.mem_cons.1 hb with rfl | hb
      · decide
      · exact hd hb

theorem setEnd_no {c : Nat → Int} {d : Nat → Bool} {line : List UInt8} {mb b : Nat} {w w' : World} {e : Ending} (h : setL c d line = none) (h2 : e = .returned (.bool false) ∧ Below w.heap.size w w') : SetEnd c d line mb b w e w' := .inl ⟨h, h2.1, Turn.of_below h2.2⟩

theorem setField_any (c : Nat → Int) (d : Nat → Bool) (s : ByteArray) (mb b : Nat) (w : World) (hs : s.size ≤ 1048576) (ht : Tab w) (he : Errs w) (hS : St w mb b c d) :
    Calls Tryd.prog 33 #[.map (some mb), .string s] w (SetEnd c d s.data.toList mb b w) := by
  obtain ⟨l, hF, hr, hl, hnd⟩ := id hS
  have hl14 : ∀ y, y ∈ l → y < 14 := fun y hy => ((hl y).1 hy).1
  have two : ∀ {nB vB : ByteArray} {f : Bool}, vB.size ≤ 1048576 → setL c d s.data.toList = none →
      (∀ W, Calls Tryd.prog 41 #[.string s, .string ⟨#[61]⟩] W fun e w' => e = .returned (.tuple #[.string nB, .string vB, .bool f]) ∧ Below W.heap.size W w') →
      ((readT vB.data.toList).2 = false ∨ ∀ y, y ∈ l → nmB y ≠ nB) → Calls Tryd.prog 33 #[.map (some mb), .string s] w (SetEnd c d s.data.toList mb b w) := by
    intro nB vB f hv hno hcut hor
    by_cases hx : ∃ x, x ∈ l ∧ nmB x = nB
    · obtain ⟨x, hx, rfl⟩ := hx
      rcases hor with h | h
      · exact (setField_bad w hv ht he hF hx hl14 hcut h).mono fun _ _ h => setEnd_no hno h
      · exact absurd rfl (h x hx)
    · exact (setField_nil w hv ht he hF hcut fun y hy e => hx ⟨y, hy, e⟩).mono fun _ _ h => setEnd_no hno h
  rcases cut_cases s.data.toList 61 with h | ⟨n, v, hsl, h⟩
  · refine two (nB := s) (vB := ⟨#[]⟩) (by decide) ?_ (fun W => cut_no s W h) (.inl rfl)
    unfold setL
    rw [parts_no h]
  · have hp : parts 61 s.data.toList = n :: parts 61 v := by rw [hsl, parts_cut h]
    have hz : v.length ≤ 1048576 := by
      have := congrArg List.length hsl
      rw [Array.length_toList] at this
      have e : s.data.size = s.size := rfl
      simp at this
      omega
    have hvz : (⟨v.toArray⟩ : ByteArray).size ≤ 1048576 := by simpa [ByteArray.size] using hz
    have hcut := fun W => cut_yes s n v W hs hsl h
    have hvl : (⟨v.toArray⟩ : ByteArray).data.toList = v := by simp
    by_cases hv : ∀ b, b ∈ v → b ≠ 61
    · rw [parts_no hv] at hp
      cases hr2 : (readT v).2 with
      | false =>
        refine two hvz ?_ hcut (.inl (by rw [hvl]; exact hr2))
        unfold setL
        rw [hp]
        simp [hr2]
      | true =>
        cases hfa : fieldAt n with
        | none =>
          refine two hvz ?_ hcut (.inr fun y hy e => ?_)
          · unfold setL
            rw [hp]
            simp [hr2, hfa]
          · have h1 := fieldAt_some (hl14 y hy)
            rw [e] at h1
            have h2 : (⟨n.toArray⟩ : ByteArray).data.toList = n := by simp
            rw [h2, hfa] at h1
            cases h1
        | some i =>
          obtain ⟨hi, hni⟩ := fieldAt_of hfa
          have hnb : nmB i = ⟨n.toArray⟩ := by
            apply ByteArray.ext
            apply Array.toList_inj.1
            simpa using hni
          cases hdi : d i with
          | true =>
            refine two hvz ?_ hcut (.inr fun y hy e => ?_)
            · unfold setL
              rw [hp]
              simp [hr2, hfa, hdi]
            · have h1 := nm_inj (hl14 y hy) hi (e.trans hnb.symm)
              subst h1
              have := ((hl y).1 hy).2
              rw [hdi] at this
              cases this
          | false =>
            have hset : setL c d s.data.toList = some (upd c i (readT v).1, updB d i) := by
              unfold setL
              rw [hp]
              simp [hr2, hfa, hdi]
            rw [← hnb] at hcut
            refine (setField_ok w hvz ht he hS hi hdi hcut (nv := (readT v).1) (by rw [hvl, ← hr2])).mono ?_
            rintro e w' ⟨h1, h2, h3⟩
            exact .inr ⟨_, _, hset, h1, h2, h3⟩
    · have hr2 : (readT v).2 = false := by
        cases e : (readT v).2
        · rfl
        · exact absurd (read_no_eq e) hv
      refine two hvz ?_ hcut (.inl (by rw [hvl]; exact hr2))
      have h2 := parts_two_of hv
      unfold setL
      rw [hp]
      match h3 : parts 61 v, h2 with
      | a :: q :: r, _ => rfl
end Go.Proofs.YtahfmgjchjjlmaaDoor.Fm
