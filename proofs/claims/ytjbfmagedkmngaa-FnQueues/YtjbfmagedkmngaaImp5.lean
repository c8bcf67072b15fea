/- What valid answers. -/
import Derived.Test.YtjbfmagedkmngaaImp4
namespace Go.Proofs.Ytjbfmagedkmngaa.Que
open Go.RowKit Go.Deep Base Rng Go.Shelf

theorem seg_bnd {ss : List Sl} : ∀ {l : List Nat} {pr p m : Int}, Seg ss pr p l m (-1) → (∀ x ∈ l, x < 60) → (-1 ≤ p ∧ p < 60) ∧ ∀ x ∈ l, -1 ≤ (sl ss x).next ∧ (sl ss x).next < 60
  | [], pr, p, m, h, _ => by obtain ⟨_, h⟩ := h; exact ⟨by omega, by simp⟩
  | x :: l, pr, p, m, h, hl => by
    obtain ⟨h1, _, _, h4⟩ := h
    have hx := hl x (by simp)
    obtain ⟨i1, i2⟩ := seg_bnd h4 (fun y hy => hl y (by simp [hy]))
    exact ⟨by omega, fun y hy => (List.mem_cons.1 hy).elim (fun e => by rw [e]; exact i1) (i2 y)⟩
theorem fch_bnd {ss : List Sl} : ∀ {l : List Nat} {p : Int}, FCh ss p l → (∀ x ∈ l, x < 60) → (-1 ≤ p ∧ p < 60) ∧ ∀ x ∈ l, -1 ≤ (sl ss x).next ∧ (sl ss x).next < 60
  | [], p, h, _ => by have h : p = -1 := h; exact ⟨by omega, by simp⟩
  | x :: l, p, h, hl => by
    obtain ⟨h1, _, h4⟩ := h
    have hx := hl x (by simp)
    obtain ⟨i1, i2⟩ := fch_bnd h4 (fun y hy => hl y (by simp [hy]))
    exact ⟨by omega, fun y hy => (List.mem_cons.1 hy).elim (fun e => by rw [e]; exact i1) (i2 y)⟩

theorem val_range {ss : List Sl} {f l r c : Int} {us fs : List Nat} (v : Val ss f l r c us fs) : rangeB ss f r = true := by
  obtain ⟨a1, a2⟩ := seg_bnd v.seg (fun x hx => v.lt x (by simp [hx]))
  obtain ⟨b1, b2⟩ := fch_bnd v.fch (fun x hx => v.lt x (by simp [hx]))
  unfold rangeB
  rw [Bool.and_eq_true, Bool.and_eq_true]
  refine ⟨⟨?_, lnkB_true a1.1 a1.2⟩, lnkB_true b1.1 b1.2⟩
  rw [List.all_eq_true]
  intro s hs
  obtain ⟨k, hk, rfl⟩ := List.getElem_of_mem hs
  have hk' : k < 60 := by have := v.len; omega
  have hm := mem_of_full v.nd v.lt v.full hk'
  have he : sl ss k = ss[k] := by simp [sl, hk]
  rw [← he]
  rcases List.mem_append.1 hm with h | h
  · exact lnkB_true (a2 k h).1 (a2 k h).2
  · exact lnkB_true (b2 k h).1 (b2 k h).2

theorem inr_of {ss : List Sl} {f r : Int} (hn : ss.length = 60) (h : rangeB ss f r = true) : InR ss f ∧ InR ss r := by
  unfold rangeB at h
  rw [Bool.and_eq_true, Bool.and_eq_true] at h
  obtain ⟨⟨h1, h2⟩, h3⟩ := h
  have hb : ∀ x, lnkB x = true → -1 ≤ x ∧ x ≤ 59 := fun x hx => by
    unfold lnkB at hx
    rw [Bool.and_eq_true] at hx
    have := of_decide_eq_true hx.1
    have := of_decide_eq_true hx.2
    omega
  have hs : ∀ i, i < 60 → -1 ≤ (sl ss i).next ∧ (sl ss i).next ≤ 59 := fun i hi => by
    rw [List.all_eq_true] at h1
    have hi' : i < ss.length := by omega
    have he : sl ss i = ss[i] := by simp [sl, hi']
    rw [he]
    exact hb _ (h1 _ (List.getElem_mem hi'))
  exact ⟨⟨hb f h2, hs⟩, ⟨hb r h3, hs⟩⟩

theorem okQ_noRange {ss : List Sl} {f l r c : Int} (h : rangeB ss f r = false) : okQ ss f l r c = false := by
  cases ho : okQ ss f l r c
  · rfl
  · obtain ⟨us, fs, v⟩ := ok_val ho
    rw [val_range v] at h; cases h
theorem okQ_noUsed {ss : List Sl} {f l r c : Int} (h : usedB ss f l c = false) : okQ ss f l r c = false := by
  unfold okQ
  unfold usedB at h
  split at h
  · next e => rw [e]; simp
  · next us a e =>
    rw [e]
    simp only
    have h2 : (((us.length : Int) == c) && (l == a)) = false := by
      rw [Bool.and_comm, ← h]
      congr 1
      exact Bool.beq_comm
    rw [h2]; simp
theorem usedB_some {ss : List Sl} {f l c : Int} (h : usedB ss f l c = true) : ∃ us a, usedW ss 61 f (-1) [] = some (us, a) ∧ (us.length : Int) = c ∧ l = a := by
  unfold usedB at h
  split at h
  · cases h
  · next us a e =>
    rw [Bool.and_eq_true] at h
    exact ⟨us, a, e, by simpa using h.2, by have := h.1; simp at this; exact this.symm⟩
theorem okQ_free2 {ss : List Sl} {f l r c : Int} {us : List Nat} {a : Int} (hn : ss.length = 60) (h : usedW ss 61 f (-1) [] = some (us, a)) (h1 : (us.length : Int) = c) (h2 : l = a) : okQ ss f l r c = match freeW ss 61 r us with
    | none => false
    | some vs => vs.length == 60 := by
  unfold okQ
  rw [h]
  cases hq : freeW ss 61 r us <;> simp [hn, h1, h2, hq]
theorem full_eq {vs : List Nat} (hd : vs.Nodup) (hl : ∀ x ∈ vs, x < 60) : allT 60 (fun j => decide (j ∈ vs)) = (vs.length == 60) := by
  have hle := nodup_le 60 vs hd hl
  by_cases h : vs.length = 60
  · rw [h]
    exact allT_true (fun k hk => by simpa using mem_of_full hd hl h hk)
  · have h1 : (vs.length == 60) = false := by simpa using h
    rw [h1]
    cases ha : allT 60 (fun j => decide (j ∈ vs))
    · rfl
    · exfalso
      unfold allT at ha
      rw [List.all_eq_true] at ha
      have hsub : ∀ x ∈ List.range 60, x ∈ vs := fun x hx => by simpa using ha x hx
      have := (List.nodup_range (n := 60)).length_le_of_subset hsub
      simp at this
      omega
theorem used_nd {ss : List Sl} {f a : Int} {us : List Nat} (h : usedW ss 61 f (-1) [] = some (us, a)) : us.Nodup ∧ ∀ x ∈ us, x < 60 := by
  obtain ⟨r, er, s1, s2, s3⟩ := usedW_some h
  rw [List.nil_append] at er
  subst er
  exact ⟨List.Pairwise.of_map _ (fun a b h e => h (by rw [e])) (s3 (by simp)), s2⟩
theorem free_nd {ss : List Sl} {r : Int} {us vs : List Nat} (h : freeW ss 61 r us = some vs) (h1 : us.Nodup) (h2 : ∀ x ∈ us, x < 60) : vs.Nodup ∧ ∀ x ∈ vs, x < 60 := by
  obtain ⟨q, rfl, _, s2, s3⟩ := freeW_some h
  exact ⟨s3 h1, fun x hx => by exact (List.mem_append.1 hx).elim (h2 x) (s2 x)⟩

theorem seen_new (w : World) : (w.alloc (.cells #[.bool false, .bool false, .bool false, .bool false, .bool false, .bool false, .bool false, .bool false, .bool false, .bool false, .bool false, .bool false, .bool false, .bool false, .bool false, .bool false, .bool false, .bool false, .bool false, .bool false, .bool false, .bool false, .bool false, .bool false, .bool false, .bool false, .bool false, .bool false, .bool false, .bool false, .bool false, .bool false, .bool false, .bool false, .bool false, .bool false, .bool false, .bool false, .bool false, .bool false, .bool false, .bool false, .bool false, .bool false, .bool false, .bool false, .bool false, .bool false, .bool false, .bool false, .bool false, .bool false, .bool false, .bool false, .bool false, .bool false, .bool false, .bool false, .bool false, .bool false] 74)).rowIs w.heap.size 74 60 (fun _ => .bool false) := by
  have e : (#[.bool false, .bool false, .bool false, .bool false, .bool false, .bool false, .bool false, .bool false, .bool false, .bool false, .bool false, .bool false, .bool false, .bool false, .bool false, .bool false, .bool false, .bool false, .bool false, .bool false, .bool false, .bool false, .bool false, .bool false, .bool false, .bool false, .bool false, .bool false, .bool false, .bool false, .bool false, .bool false, .bool false, .bool false, .bool false, .bool false, .bool false, .bool false, .bool false, .bool false, .bool false, .bool false, .bool false, .bool false, .bool false, .bool false, .bool false, .bool false, .bool false, .bool false, .bool false, .bool false, .bool false, .bool false, .bool false, .bool false, .bool false, .bool false, .bool false, .bool false] : Array Value) = Array.replicate 60 (.bool false) := by rfl
  rw [e]
  have h := World.rowIs_alloc w (Array.replicate 60 (.bool false)) 74 (fun _ => .bool false) (fun i hi => by simp at hi; simp [hi])
  simpa using h

theorem Turns.below_new {w W W' : World} {sb : Nat} (h : Below w.heap.size w W) (h1 : Turns sb (sb + 1) W W') (hs : w.heap.size ≤ sb) : Below w.heap.size w W' :=
  ⟨h1.os.trans h.os, h1.tape.trans h.tape, h1.output.trans h.output, Nat.le_trans h.size h1.size, fun k hk => (h1.block k (Nat.lt_of_lt_of_le hk h.size) (by omega)).trans (h.block k hk)⟩

set_option maxRecDepth 100000 in
set_option maxHeartbeats 1000000 in
theorem valid_any (b : Nat) (f l r c : Int) (ss : List Sl) (w : World) (hn : ss.length = 60) (h : Lk w b ss f l r c) :
    Calls Try.prog 61 #[.pointer (some ⟨b, 0, none⟩)] w fun e w' => e = .returned (.bool (okQ ss f l r c)) ∧ Below w.heap.size w w' := by
  have Hn := Lib.hid hn
  have HL := Lib.hid h
  have hb := h.lt
  clear h hn
  go_enter Try.func61, Try.ntmps61
  go_wp2_with fail
  obtain ⟨W0, hW0⟩ : ∃ W0, w.alloc (.cells #[.bool false, .bool false, .bool false, .bool false, .bool false, .bool false, .bool false, .bool false, .bool false, .bool false, .bool false, .bool false, .bool false, .bool false, .bool false, .bool false, .bool false, .bool false, .bool false, .bool false, .bool false, .bool false, .bool false, .bool false, .bool false, .bool false, .bool false, .bool false, .bool false, .bool false, .bool false, .bool false, .bool false, .bool false, .bool false, .bool false, .bool false, .bool false, .bool false, .bool false, .bool false, .bool false, .bool false, .bool false, .bool false, .bool false, .bool false, .bool false, .bool false, .bool false, .bool false, .bool false, .bool false, .bool false, .bool false, .bool false, .bool false, .bool false, .bool false, .bool false] 74) = W0 := ⟨_, rfl⟩
  rw [hW0]
  have hs0 := seen_new w
  rw [hW0] at hs0
  have Hs0 := Lib.hid hs0
  have HB0 : Hid (Below w.heap.size w W0) := by rw [← hW0]; exact (Below.refl _ _).alloc (Nat.le_refl _) _
  clear hs0 hW0
  refine (inRange_any b ss f l r c _ Hn.out (HL.out.below HB0.out)).mono ?_
  rintro e w1 ⟨rfl, hb1⟩
  have Hs1 := Lib.hid (Hs0.out.of_block (hb1.block _ Hs0.out.lt))
  have HB1 := Lib.hid (bel_trans HB0.out hb1)
  clear hb1
  cases hr : rangeB ss f r
  · have Ho := Lib.hid (okQ_noRange (l := l) (c := c) hr)
    clear hr
    go_wp2
    go_ret
    exact ⟨by rw [Ho.out]; rfl, HB1.out⟩
  have Hr := Lib.hid (inr_of Hn.out hr)
  clear hr
  go_wp2_with fail
  refine (usedOk_any b w.heap.size f l r c ss w1 (HL.out.below HB1.out) Hr.out.1 Hs1.out (by omega)).mono ?_
  rintro e w2 ⟨rfl, ht2, hrow2⟩
  have HB2 := Lib.hid (Turns.below_new HB1.out ht2 (Nat.le_refl _))
  have Hrow2 := Lib.hid hrow2
  clear hrow2 ht2
  cases hu : usedB ss f l c
  · have Ho := Lib.hid (okQ_noUsed (r := r) hu)
    clear hu
    go_wp2
    go_ret
    exact ⟨by rw [Ho.out]; rfl, HB2.out⟩
  obtain ⟨us, a, hus, hc, hla⟩ := usedB_some hu
  clear hu
  have Hok := Lib.hid (okQ_free2 (r := r) Hn.out hus hc hla)
  have Hnd := Lib.hid (used_nd hus)
  have Hr2 := Lib.hid (Hrow2.out us a hus)
  clear hus hc hla
  go_wp2_with fail
  refine (freeOk_any b w.heap.size f l r c ss us w2 (HL.out.below HB2.out) Hr.out.2 Hr2.out (by omega) Hnd.out.1 Hnd.out.2).mono ?_
  rintro e w3 ⟨rfl, ht3, hrow3⟩
  have HB3 := Lib.hid (Turns.below_new HB2.out ht3 (Nat.le_refl _))
  have Hrow3 := Lib.hid hrow3
  clear hrow3 ht3
  cases hf : freeW ss 61 r us
  · have Ho : Hid (okQ ss f l r c = false) := by have h := Hok.out; rw [hf] at h; exact h
    clear hf
    simp only [Option.isSome_none]
    go_wp2
    go_ret
    exact ⟨by rw [Ho.out]; rfl, HB3.out⟩
  rename_i vs
  have Ho : Hid (okQ ss f l r c = (vs.length == 60)) := by have h := Hok.out; rw [hf] at h; exact h
  have Hvn := Lib.hid (free_nd hf Hnd.out.1 Hnd.out.2)
  have hr3 := Hrow3.out vs hf
  have Hfu := Lib.hid (full_eq Hvn.out.1 Hvn.out.2)
  have HC : Hid (∀ i, i < 60 → w3.cell? ⟨w.heap.size, i, none⟩ = some (.bool (decide (i ∈ vs)))) := fun i hi => hr3.cell hi
  clear hr3 hf
  simp only [Option.isSome_some]
  go_wp2_with fail
  refine (contB_any w.heap.size 60 60 (fun j => decide (j ∈ vs)) w3 (by omega) HC.out).mono ?_
  rintro e w4 ⟨rfl, rfl⟩
  rw [Hfu.out]
  go_wp2
  go_ret
  exact ⟨by rw [Ho.out]; simp, HB3.out⟩
end Go.Proofs.Ytjbfmagedkmngaa.Que
