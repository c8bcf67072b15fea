/- Adding at the end of a valid queue and removing a place keep it valid: plain mathematics. -/
import Derived.Test.YtjbfmagedkmngaaQMath
namespace Go.Proofs.Ytjbfmagedkmngaa.Que

theorem sl_set (ss : List Sl) (i j : Nat) (s : Sl) (hi : i < ss.length) : sl (ss.set i s) j = if j = i then s else sl ss j := by
  unfold sl
  rw [List.getD_eq_getElem?_getD, List.getD_eq_getElem?_getD, List.getElem?_set]
  by_cases e : i = j
  · subst e; simp [hi]
  · rw [if_neg e, if_neg (fun h => e h.symm)]

def wNext (s : Sl) (v : Int) : Sl := ⟨s.id, s.prev, v, s.used⟩
def wPrev (s : Sl) (v : Int) : Sl := ⟨s.id, v, s.next, s.used⟩
def setNext (ss : List Sl) (i v : Int) : List Sl := if i = -1 then ss else ss.set i.toNat (wNext (sl ss i.toNat) v)
def setPrev (ss : List Sl) (i v : Int) : List Sl := if i = -1 then ss else ss.set i.toNat (wPrev (sl ss i.toNat) v)

theorem setNext_facts {ss : List Sl} {i v : Int} (len : ss.length = 60) (h : i = -1 ∨ ∃ a : Nat, i = (a : Int) ∧ a < 60) :
    (setNext ss i v).length = 60 ∧ (∀ y : Nat, (y : Int) ≠ i → sl (setNext ss i v) y = sl ss y) ∧ ∀ y : Nat, (y : Int) = i → y < 60 → sl (setNext ss i v) y = wNext (sl ss y) v := by
  unfold setNext
  rcases h with h | ⟨a, rfl, ha⟩
  · rw [if_pos h]; exact ⟨len, fun _ _ => rfl, fun y hy => by omega⟩
  · rw [if_neg (by omega), Int.toNat_natCast]
    refine ⟨by simp [len], fun y hy => ?_, fun y hy _ => ?_⟩
    · rw [sl_set _ _ _ _ (by omega), if_neg (by omega)]
    · rw [sl_set _ _ _ _ (by omega), if_pos (by omega), show y = a from by omega]

theorem setPrev_facts {ss : List Sl} {i v : Int} (len : ss.length = 60) (h : i = -1 ∨ ∃ a : Nat, i = (a : Int) ∧ a < 60) :
    (setPrev ss i v).length = 60 ∧ (∀ y : Nat, (y : Int) ≠ i → sl (setPrev ss i v) y = sl ss y) ∧ ∀ y : Nat, (y : Int) = i → y < 60 → sl (setPrev ss i v) y = wPrev (sl ss y) v := by
  unfold setPrev
  rcases h with h | ⟨a, rfl, ha⟩
  · rw [if_pos h]; exact ⟨len, fun _ _ => rfl, fun y hy => by omega⟩
  · rw [if_neg (by omega), Int.toNat_natCast]
    refine ⟨by simp [len], fun y hy => ?_, fun y hy _ => ?_⟩
    · rw [sl_set _ _ _ _ (by omega), if_neg (by omega)]
    · rw [sl_set _ _ _ _ (by omega), if_pos (by omega), show y = a from by omega]

def pushS (ss : List Sl) (last free id : Int) : List Sl := setNext (ss.set free.toNat ⟨id, last, -1, true⟩) last free

def remS (ss : List Sl) (free : Int) (p : Nat) : List Sl :=
  (setPrev (setNext ss (sl ss p).prev (sl ss p).next) (sl ss p).next (sl ss p).prev).set p ⟨0, -1, free, false⟩

theorem map_id_congr {ss ss' : List Sl} {l : List Nat} (h : ∀ x ∈ l, (sl ss' x).id = (sl ss x).id) : (l.map fun v => (sl ss' v).id) = l.map fun v => (sl ss v).id :=
  List.map_congr_left h

theorem seg_first {ss : List Sl} {l : List Nat} {pr p m q : Int} (h : Seg ss pr p l m q) : (l = [] ∧ q = p ∧ m = pr) ∨ ∃ x r, l = x :: r ∧ p = ((x : Nat) : Int) := by
  cases l with
  | nil => exact .inl ⟨rfl, h.2, h.1⟩
  | cons x r => exact .inr ⟨x, r, rfl, h.1⟩

theorem push_val {ss : List Sl} {first last free count id : Int} {us fs : List Nat} {x : Nat} (v : Val ss first last free count us (x :: fs)) (h1 : 1 ≤ id) (h2 : id ≤ 1000000000) (hid : id ∉ us.map fun u => (sl ss u).id) :
    Val (pushS ss last free id) (if last = -1 then free else first) free (sl ss x).next (count + 1) (us ++ [x]) fs
      ∧ ((us ++ [x]).map fun u => (sl (pushS ss last free id) u).id) = (us.map fun u => (sl ss u).id) ++ [id] := by
  obtain ⟨len, seg, ⟨rfl, hf, fch⟩, lt, ids, nd, full, cnt⟩ := v
  have hx : x < 60 := lt x (by simp)
  have hnd := List.nodup_append.1 nd
  have hxu : x ∉ us := fun hm => hnd.2.2 x hm x (by simp) rfl
  have hxf : x ∉ fs := (List.nodup_cons.1 hnd.2.1).1
  have hdis : ∀ y ∈ us, y ∉ fs := fun y hy hm => hnd.2.2 y hy y (by simp [hm]) rfl
  have key : ∃ ss', pushS ss last (x : Int) id = ss' ∧ ss'.length = 60 ∧ (∀ y, y ≠ x → (y : Int) ≠ last → sl ss' y = sl ss y) ∧ sl ss' x = ⟨id, last, -1, true⟩
      ∧ ∀ y : Nat, (y : Int) = last → y ≠ x → y < 60 → sl ss' y = wNext (sl ss y) (x : Int) := by
    refine ⟨_, rfl, ?_⟩
    unfold pushS
    rw [Int.toNat_natCast]
    have hl : last = -1 ∨ ∃ a : Nat, last = (a : Int) ∧ a < 60 ∧ a ≠ x := by
      rcases seg_first seg with ⟨_, _, hl⟩ | ⟨a, r, hu, _⟩
      · exact .inl hl
      · obtain ⟨l', z, hz, hzl, _⟩ := seg_last seg (by rw [hu]; simp)
        exact .inr ⟨z, hzl, lt z (by rw [hz]; simp), by rintro rfl; exact hxu (by rw [hz]; simp)⟩
    obtain ⟨f1, f2, f3⟩ := setNext_facts (ss := ss.set x ⟨id, last, -1, true⟩) (i := last) (v := (x : Int)) (by simp [len]) (by rcases hl with h | ⟨a, h, h', _⟩; exact .inl h; exact .inr ⟨a, h, h'⟩)
    refine ⟨f1, fun y hy hyl => ?_, ?_, fun y hy hyx h60 => ?_⟩
    · rw [f2 y hyl, sl_set _ _ _ _ (by omega), if_neg hy]
    · rw [f2 x (by rcases hl with h | ⟨a, h, h', h''⟩ <;> omega), sl_set _ _ _ _ (by omega), if_pos rfl]
    · rw [f3 y hy h60, sl_set _ _ _ _ (by omega), if_neg hyx]
  obtain ⟨ss', e, len', k1, k2, k3⟩ := key
  rw [e]
  have hids : ∀ y ∈ us, (sl ss' y).id = (sl ss y).id := fun y hy => by
    have hyx : y ≠ x := by rintro rfl; exact hxu hy
    by_cases hl : (y : Int) = last
    · rw [k3 y hl hyx (lt y (by simp [hy]))]; rfl
    · rw [k1 y hyx hl]
  have hmap : ((us ++ [x]).map fun u => (sl ss' u).id) = (us.map fun u => (sl ss u).id) ++ [id] := by
    rw [List.map_append, map_id_congr hids]; simp [k2]
  refine ⟨⟨len', ?_, ?_, ?_, ?_, ?_, ?_, ?_⟩, hmap⟩
  · rcases seg_first seg with ⟨hu, hp, hl⟩ | ⟨a, r, hu, hp⟩
    · subst hl hu
      rw [if_pos rfl]
      exact ⟨rfl, by rw [k2], ⟨by rw [k2], by rw [k2]; exact h1, by rw [k2]; exact h2⟩, rfl, by rw [k2]⟩
    · obtain ⟨l', z, hz, hzl, _⟩ := seg_last seg (by rw [hu]; simp)
      subst hzl
      have hzx : z ≠ x := by rintro rfl; exact hxu (by rw [hz]; simp)
      rw [if_neg (by omega)]
      refine (seg_append _ _ _ _ _ _ _).2 ⟨(z : Int), (x : Int), ?_, ⟨rfl, by rw [k2], ⟨by rw [k2], by rw [k2]; exact h1, by rw [k2]; exact h2⟩, rfl, by rw [k2]⟩⟩
      rw [hz] at seg ⊢
      have hk := k3 z rfl hzx (lt z (by rw [hz]; simp))
      have hznd : z ∉ l' := by
        have := hnd.1
        rw [hz, List.nodup_append] at this
        exact fun hm => this.2.2 z hm z (by simp) rfl
      exact seg_out seg (fun y hy => k1 y (by rintro rfl; exact hxu (by rw [hz]; simp [hy])) (by intro h; exact hznd (by rwa [show z = y from by omega]))) (by rw [hk]; rfl) (by rw [hk]; rfl) (by rw [hk]; rfl) (by rw [hk]; rfl)
  · refine fch_congr (fun y hy => k1 y (by rintro rfl; exact hxf hy) ?_) fch
    intro hl
    rcases seg_first seg with ⟨_, _, hl'⟩ | ⟨a, r, hu, _⟩
    · omega
    · obtain ⟨l', z, hz, hzl, _⟩ := seg_last seg (by rw [hu]; simp)
      exact hdis z (by rw [hz]; simp) (by rwa [show z = y from by omega])
  · intro y hy
    exact lt y (by rw [List.append_assoc] at hy; simpa using hy)
  · rw [hmap, List.nodup_append]
    refine ⟨ids, by simp, fun a ha b hb => ?_⟩
    simp at hb
    subst hb
    rintro rfl
    exact hid ha
  · rw [List.append_assoc]; simpa using nd
  · simp at full ⊢; omega
  · simp; omega

/-- A used place stands in the queue's list. -/
theorem mem_used {ss : List Sl} {first last free count : Int} {us fs : List Nat} (v : Val ss first last free count us fs) {p : Nat} (hp : p < 60) (hu : (sl ss p).used = true) : p ∈ us := by
  have hm := mem_of_full v.nd v.lt v.full hp
  rcases List.mem_append.1 hm with h | h
  · exact h
  · exfalso
    have : ∀ (l : List Nat) (q : Int), FCh ss q l → p ∈ l → okF (sl ss p) = true := by
      intro l
      induction l with
      | nil => intro _ _ h; cases h
      | cons a r ih =>
        intro q hc hm
        rcases List.mem_cons.1 hm with rfl | hm
        · exact hc.2.1
        · exact ih _ hc.2.2 hm
    have := this fs free v.fch h
    simp [okF, hu] at this

theorem seg_used {ss : List Sl} : ∀ {l : List Nat} {pr p m q : Int}, Seg ss pr p l m q → ∀ x ∈ l, okE (sl ss x)
  | [], _, _, _, _, _, _, h => by cases h
  | a :: l, _, _, _, _, h, x, hm => by
    rcases List.mem_cons.1 hm with rfl | hm
    · exact h.2.2.1
    · exact seg_used h.2.2.2 x hm

theorem rem_val {ss : List Sl} {first last free count : Int} {l1 l2 fs : List Nat} {p : Nat} (v : Val ss first last free count (l1 ++ p :: l2) fs) :
    Val (remS ss free p) (if (sl ss p).prev = -1 then (sl ss p).next else first) (if (sl ss p).next = -1 then (sl ss p).prev else last) (p : Int) (count - 1) (l1 ++ l2) (p :: fs)
      ∧ ((l1 ++ l2).map fun u => (sl (remS ss free p) u).id) = (l1 ++ l2).map fun u => (sl ss u).id := by
  obtain ⟨len, seg, fch, lt, ids, nd, full, cnt⟩ := v
  have hp : p < 60 := lt p (by simp)
  obtain ⟨nd1, nd2, nd3⟩ := List.nodup_append.1 nd
  obtain ⟨n1, n2, n3⟩ := List.nodup_append.1 nd1
  obtain ⟨hp2, n2'⟩ := List.nodup_cons.1 n2
  have hp1 : p ∉ l1 := fun hm => n3 p hm p (by simp) rfl
  have hpf : p ∉ fs := fun hm => nd3 p (by simp) p hm rfl
  have h12 : ∀ y ∈ l1, y ∉ l2 := fun y hy hm => n3 y hy y (by simp [hm]) rfl
  have h1f : ∀ y ∈ l1, y ∉ fs := fun y hy hm => nd3 y (by simp [hy]) y hm rfl
  have h2f : ∀ y ∈ l2, y ∉ fs := fun y hy hm => nd3 y (by simp [hy]) y hm rfl
  obtain ⟨m', q', sg1, ⟨e1, e2, e3, sg2⟩⟩ := (seg_append _ _ _ _ _ _ _).1 seg
  subst e1
  -- what leads to p, and where p leads
  have hA : (l1 = [] ∧ (sl ss p).prev = -1 ∧ first = (p : Int)) ∨ ∃ (l' : List Nat) (a : Nat), l1 = l' ++ [a] ∧ (sl ss p).prev = (a : Int) ∧ a < 60 ∧ a ≠ p ∧ a ∉ l' := by
    rcases seg_first sg1 with ⟨h, hq, hm⟩ | ⟨x, r, h, _⟩
    · exact .inl ⟨h, by rw [e2, hm], hq.symm⟩
    · obtain ⟨l', a, ha, hm, _⟩ := seg_last sg1 (by rw [h]; simp)
      refine .inr ⟨l', a, ha, by rw [e2, hm], lt a (by rw [ha]; simp), by rintro rfl; exact hp1 (by rw [ha]; simp), ?_⟩
      rw [ha, List.nodup_append] at n1
      exact fun hm => n1.2.2 a hm a (by simp) rfl
  have hB : (l2 = [] ∧ (sl ss p).next = -1 ∧ last = (p : Int)) ∨ ∃ (b : Nat) (r : List Nat), l2 = b :: r ∧ (sl ss p).next = (b : Int) ∧ b < 60 ∧ b ≠ p ∧ b ∉ r := by
    rcases seg_first sg2 with ⟨h, hq, hm⟩ | ⟨b, r, h, hb⟩
    · exact .inl ⟨h, by omega, hm⟩
    · refine .inr ⟨b, r, h, hb, lt b (by rw [h]; simp), by rintro rfl; exact hp2 (by rw [h]; simp), ?_⟩
      rw [h] at n2'
      exact (List.nodup_cons.1 n2').1
  have key : ∃ ss', remS ss free p = ss' ∧ ss'.length = 60 ∧ sl ss' p = ⟨0, -1, free, false⟩ ∧ (∀ y, y ≠ p → (y : Int) ≠ (sl ss p).prev → (y : Int) ≠ (sl ss p).next → sl ss' y = sl ss y)
      ∧ (∀ y : Nat, (y : Int) = (sl ss p).prev → y ≠ p → y < 60 → (y : Int) ≠ (sl ss p).next → sl ss' y = wNext (sl ss y) (sl ss p).next)
      ∧ ∀ y : Nat, (y : Int) = (sl ss p).next → y ≠ p → y < 60 → (y : Int) ≠ (sl ss p).prev → sl ss' y = wPrev (sl ss y) (sl ss p).prev := by
    refine ⟨_, rfl, ?_⟩
    unfold remS
    obtain ⟨f1, f2, f3⟩ := setNext_facts (i := (sl ss p).prev) (v := (sl ss p).next) len (by rcases hA with ⟨_, h, _⟩ | ⟨l', a, _, h, ha, _⟩; exact .inl h; exact .inr ⟨a, h, ha⟩)
    obtain ⟨g1, g2, g3⟩ := setPrev_facts (i := (sl ss p).next) (v := (sl ss p).prev) f1 (by rcases hB with ⟨_, h, _⟩ | ⟨b, r, _, h, hb, _⟩; exact .inl h; exact .inr ⟨b, h, hb⟩)
    refine ⟨by simp [g1], ?_, fun y hy h1 h2 => ?_, fun y h1 hy hl h2 => ?_, fun y h1 hy hl h2 => ?_⟩
    · rw [sl_set _ _ _ _ (by omega), if_pos rfl]
    · rw [sl_set _ _ _ _ (by omega), if_neg hy, g2 y h2, f2 y h1]
    · rw [sl_set _ _ _ _ (by omega), if_neg hy, g2 y h2, f3 y h1 hl]
    · rw [sl_set _ _ _ _ (by omega), if_neg hy, g3 y h1 hl, f2 y h2]
  obtain ⟨ss', e, len', k0, k1, k2, k3⟩ := key
  rw [e]
  have hids : ∀ y ∈ l1 ++ l2, (sl ss' y).id = (sl ss y).id := fun y hy => by
    have hyp : y ≠ p := by
      rintro rfl
      rcases List.mem_append.1 hy with h | h
      · exact hp1 h
      · exact hp2 h
    have hy60 : y < 60 := lt y (by rcases List.mem_append.1 hy with h | h <;> simp [h])
    by_cases a : (y : Int) = (sl ss p).prev
    · by_cases b : (y : Int) = (sl ss p).next
      · exfalso
        rcases hA with ⟨_, h, _⟩ | ⟨l', a', ha, h, _⟩
        · omega
        rcases hB with ⟨_, h', _⟩ | ⟨b', r, hb, h', _⟩
        · omega
        exact h12 a' (by rw [ha]; simp) (by rw [show a' = b' from by omega, hb]; simp)
      · rw [k2 y a hyp hy60 b]; rfl
    · by_cases b : (y : Int) = (sl ss p).next
      · rw [k3 y b hyp hy60 a]; rfl
      · rw [k1 y hyp a b]
  have hmap := map_id_congr hids
  have s1' : ∃ q1, (if (sl ss p).prev = -1 then (sl ss p).next else first) = q1 ∧ Seg ss' (-1) q1 l1 (sl ss p).prev (sl ss p).next := by
    rcases hA with ⟨h, h', h''⟩ | ⟨l', a, ha, h', ha60, hap, hal⟩
    · exact ⟨_, rfl, by subst h; rw [if_pos h']; exact ⟨h', rfl⟩⟩
    · refine ⟨_, rfl, ?_⟩
      rw [if_neg (by omega), h']
      rw [ha] at sg1 ⊢
      have hm : m' = (a : Int) := by rw [← e2]; exact h'
      rw [hm] at sg1
      have hne : (a : Int) ≠ (sl ss p).next := by
        intro hn
        rcases hB with ⟨_, h2, _⟩ | ⟨b, r, hb, h2, _⟩
        · omega
        · exact h12 a (by rw [ha]; simp) (by rw [show a = b from by omega, hb]; simp)
      have hk := k2 a h'.symm hap ha60 hne
      refine seg_out sg1 (fun y hy => ?_) (by rw [hk]; rfl) (by rw [hk]; rfl) (by rw [hk]; rfl) (by rw [hk]; rfl)
      refine k1 y (by rintro rfl; exact hp1 (by rw [ha]; simp [hy])) (by intro hh; exact hal (by rwa [show a = y from by omega])) ?_
      intro hn
      rcases hB with ⟨_, h2, _⟩ | ⟨b, r, hb, h2, _⟩
      · omega
      · exact h12 y (by rw [ha]; simp [hy]) (by rw [show y = b from by omega, hb]; simp)
  have s2' : Seg ss' (sl ss p).prev (sl ss p).next l2 (if (sl ss p).next = -1 then (sl ss p).prev else last) (-1) := by
    rcases hB with ⟨h, h', h''⟩ | ⟨b, r, hb, h', hb60, hbp, hbr⟩
    · subst h; rw [if_pos h']; exact ⟨rfl, h'.symm⟩
    · rw [if_neg (by omega)]
      rw [hb] at sg2 ⊢
      have hne : (b : Int) ≠ (sl ss p).prev := by
        intro hn
        rcases hA with ⟨_, h2, _⟩ | ⟨l', a, ha, h2, _⟩
        · omega
        · exact h12 a (by rw [ha]; simp) (by rw [show a = b from by omega, hb]; simp)
      have hk := k3 b h'.symm hbp hb60 hne
      refine seg_in sg2 (fun y hy => ?_) (by rw [hk]; rfl) (by rw [hk]; rfl) (by rw [hk]; rfl) (by rw [hk]; rfl)
      refine k1 y (by rintro rfl; exact hp2 (by rw [hb]; simp [hy])) ?_ (by intro hh; exact hbr (by rwa [show b = y from by omega]))
      intro hn
      rcases hA with ⟨_, h2, _⟩ | ⟨l', a, ha, h2, _⟩
      · omega
      · exact h12 a (by rw [ha]; simp) (by rw [show a = y from by omega, hb]; simp [hy])
  obtain ⟨q1, hq1, s1''⟩ := s1'
  refine ⟨⟨len', ?_, ?_, ?_, ?_, ?_, ?_, ?_⟩, hmap⟩
  · rw [hq1]; exact (seg_append _ _ _ _ _ _ _).2 ⟨_, _, s1'', s2'⟩
  · refine ⟨rfl, by rw [k0]; rfl, ?_⟩
    rw [k0]
    refine fch_congr (fun y hy => k1 y (by rintro rfl; exact hpf hy) ?_ ?_) fch
    · intro hn
      rcases hA with ⟨_, h2, _⟩ | ⟨l', a, ha, h2, _⟩
      · omega
      · exact h1f a (by rw [ha]; simp) (by rwa [show a = y from by omega])
    · intro hn
      rcases hB with ⟨_, h2, _⟩ | ⟨b, r, hb, h2, _⟩
      · omega
      · exact h2f b (by rw [hb]; simp) (by rwa [show b = y from by omega])
  · intro y hy
    refine lt y ?_
    simp only [List.mem_append, List.mem_cons] at hy ⊢
    rcases hy with (h | h) | h | h <;> simp [h]
  · rw [hmap]
    refine List.Nodup.sublist ?_ ids
    exact List.Sublist.map _ (List.Sublist.append (List.Sublist.refl _) (List.sublist_cons_self _ _))
  · rw [List.nodup_append]
    refine ⟨List.Nodup.sublist (List.Sublist.append (List.Sublist.refl _) (List.sublist_cons_self _ _)) nd1, List.nodup_cons.2 ⟨hpf, nd2⟩, fun a ha b hb => ?_⟩
    rintro rfl
    rcases List.mem_cons.1 hb with rfl | hb
    · rcases List.mem_append.1 ha with h | h
      · exact hp1 h
      · exact hp2 h
    · rcases List.mem_append.1 ha with h | h
      · exact h1f _ h hb
      · exact h2f _ h hb
  · simp at full ⊢; omega
  · simp at cnt ⊢; omega
end Go.Proofs.Ytjbfmagedkmngaa.Que
