/- The program's PlayHeap. -/
import Derived.Test.YtnmhdbfemobhkaaPh2
namespace Go.Proofs.Ytnmhdbfemobhkaa.Hp
open Go.RowKit Go.Deep Base

/-- All operations one after the other: the items, the heap's Seq, the results. -/
def ply : List (List Int) → List Du → Int → List Du × Int × List Int
  | [], ds, q => (ds, q, [])
  | op :: r, ds, q => ((ply r (stpD ds q op) (stpQ ds q op)).1, (ply r (stpD ds q op) (stpQ ds q op)).2.1, stpL ds q op ++ (ply r (stpD ds q op) (stpQ ds q op)).2.2)
theorem ply_drop {zss : List (List Int)} {k : Nat} (h : k < zss.length) (ds : List Du) (q : Int) :
    ply (zss.drop k) ds q = ((ply (zss.drop (k + 1)) (stpD ds q (zss.getD k [])) (stpQ ds q (zss.getD k []))).1, (ply (zss.drop (k + 1)) (stpD ds q (zss.getD k [])) (stpQ ds q (zss.getD k []))).2.1, stpL ds q (zss.getD k []) ++ (ply (zss.drop (k + 1)) (stpD ds q (zss.getD k [])) (stpQ ds q (zss.getD k []))).2.2) := by
  have e : zss.getD k [] = zss[k] := by simp [List.getD_eq_getElem?_getD, h]
  rw [List.drop_eq_getElem_cons h, e]
  rfl
/-- PlayHeap's answer. -/
def plyA (zss : List (List Int)) : List Du × Int × List Int := if 300 < zss.length then ([], 0, []) else ply zss [] 0

theorem stpD_few {ds : List Du} {q : Int} {op : List Int} (h : ds.length ≤ 100) : (stpD ds q op).length ≤ 100 := by
  unfold stpD
  split
  · split
    · unfold schD
      split
      · next e =>
        unfold schB at e
        simp only [Bool.and_eq_true] at e
        exact (okH_val e.2).few
      · exact h
    · split
      · exact Nat.le_trans (canD_len _ _ _) h
      · split
        · refine Nat.le_trans ?_ h
          unfold popD
          split
          · exact popR_len _ _ _
          · exact Nat.le_refl _
        · exact h
  · exact h
theorem stpL_few {ds : List Du} {q : Int} {op : List Int} : 0 < (stpL ds q op).length ∧ (stpL ds q op).length ≤ 101 := by
  unfold stpL
  split
  · split
    · simp
    · split
      · simp
      · split
        · have := popL_few ds q (op.getD 1 0)
          rw [List.length_append]
          simp only [List.length_cons, List.length_nil]
          omega
        · simp
  · simp

/-- The items lie in a block of their own from lo on; it is not that of the list v. -/
def Apart (w : World) (lo : Nat) (A : Option Addr) (es : List Du) (v : Value) : Prop :=
  0 < es.length → ∃ g, A = some ⟨g, 0, none⟩ ∧ lo ≤ g ∧ g < w.heap.size ∧ Rd w g es ∧ some g ≠ v.ownBlock
theorem Apart.dv {w : World} {lo : Nat} {A : Option Addr} {es : List Du} {v : Value} (h : Apart w lo A es v) : DV w lo w.heap.size A es := fun hp => by
  obtain ⟨g, h1, h2, h3, h4, _⟩ := h hp
  exact ⟨g, h1, h2, h3, h4⟩

structure PlSt (w wr : World) (zss : List (List Int)) (k : Nat) (es : List Du) (p : Int) (pre : List Int) (A : Option Addr) (c : Nat) (v : Value) : Prop where
  box : Blk2 wr (w.heap.size + 1) (.slice A es.length c) (.int .i64 p)
  res : Blk2 wr w.heap.size (.slice none 0 0) (.int .i64 0)
  items : Apart wr (w.heap.size + 1 + 1) A es v
  few : es.length ≤ 100
  own : wr.ownsRow (w.heap.size + 1 + 1) 3 1 v pre.length (pre.map (Value.int .i64))
  eq : ply zss [] 0 = ((ply (zss.drop k) es p).1, (ply (zss.drop k) es p).2.1, pre ++ (ply (zss.drop k) es p).2.2)
  pl : pre.length ≤ 101 * k
  old : Below w.heap.size w wr

/-- What PlayHeap leaves. -/
def PlayEnd (w : World) (r : List Du × Int × List Int) (e : Ending) (w' : World) : Prop :=
  ∃ A cap A2 c2, e = .returned (.tuple #[.agg #[.slice A r.1.length cap, .int .i64 r.2.1], .slice A2 r.2.2.length c2]) ∧ Apart w' w.heap.size A r.1 (.slice A2 r.2.2.length c2) ∧ w'.ownsRow w.heap.size 3 1 (.slice A2 r.2.2.length c2) r.2.2.length (r.2.2.map (Value.int .i64)) ∧ Below w.heap.size w w'

theorem owns_low {w : World} {base base' : Nat} {t : TypeId} {sz n : Nat} {v : Value} {xs : List Value} (h : w.ownsRow base t sz v n xs) (hb : base' ≤ base) : w.ownsRow base' t sz v n xs := by
  refine ⟨h.1, ?_⟩
  rcases h.2 with hn | ⟨r, c, cur, e1, hb', rest⟩
  · exact .inl hn
  · exact .inr ⟨r, c, cur, e1, by omega, rest⟩

theorem news_ri {w : World} {g : Nat} {zs : List Int} (h : RI w g zs) : ∀ j u, (zs.map (Value.int .i64))[j]? = some u → w.cell? ((⟨g, 0, none⟩ : Addr).add j) = some u := by
  intro j u hj
  have hlt : j < zs.length := by have := (List.getElem?_eq_some_iff.1 hj).1; simpa using this
  have ea : (⟨g, 0, none⟩ : Addr).add j = ⟨g, j, none⟩ := by
    unfold Addr.add; split
    · next h => subst h; rfl
    · simp
  rw [ea, (h j hlt).1]
  simp [hlt] at hj
  rw [← hj]
  simp [List.getD_eq_getElem?_getD, hlt]

/-- From W to w3 the list v has grown into v', and nothing else has turned. -/
structure Tg (W w3 : World) (base : Nat) (v v' : Value) (pre : List Int) : Prop where
  grown : W.grownBy w3 v.ownBlock
  own : w3.ownsRow base 3 1 v' pre.length (pre.map (Value.int .i64))
  lies : v'.ownBlock = v.ownBlock ∨ ∃ r, v'.ownBlock = some r ∧ W.heap.size ≤ r
theorem Tg.refl {W : World} {base : Nat} {v : Value} {pre : List Int} (h : W.ownsRow base 3 1 v pre.length (pre.map (Value.int .i64))) : Tg W W base v v pre := ⟨⟨rfl, rfl, rfl, Nat.le_refl _, fun _ _ _ => rfl⟩, h, .inl rfl⟩
theorem Tg.push {W wz w3 : World} {base : Nat} {v v' v'' : Value} {pre : List Int} {x : Int} {o : Obj} (h : Tg W wz base v v' pre) (hown : w3.ownsRow base 3 1 v'' (pre.length + 1) (pre.map (Value.int .i64) ++ [.int .i64 x])) (hgr : (wz.alloc o).grownBy w3 v'.ownBlock)
    (hat : v''.ownBlock = v'.ownBlock ∨ v''.ownBlock = some (wz.heap.size + 1)) : Tg W w3 base v v'' (pre ++ [x]) := by
  have hz := h.grown.size
  have hs : wz.heap.size + 1 ≤ w3.heap.size := by have := hgr.size; simpa using this
  refine ⟨⟨hgr.os.trans h.grown.os, hgr.tape.trans h.grown.tape, hgr.output.trans h.grown.output, by omega, fun k hk hne => ?_⟩, ?_, ?_⟩
  · have hne' : some k ≠ v'.ownBlock := by
      rcases h.lies with e | ⟨r, e, hr⟩
      · rw [e]; exact hne
      · rw [e]; intro e'; injection e' with e'; omega
    exact (hgr.block k (by simp; omega) hne').trans ((Below.heap_alloc _ _ _ (by omega)).trans (h.grown.block k hk hne))
  · rw [List.length_append, List.map_append]; exact hown
  · rcases hat with e | e
    · rcases h.lies with e' | ⟨r, e', hr⟩
      · exact .inl (e.trans e')
      · exact .inr ⟨r, e.trans e', hr⟩
    · exact .inr ⟨_, e, by omega⟩

/-- One operation done: W is the world with the new heap in its box, w3 that with the grown list. -/
theorem PlSt.go {w wr W w3 : World} {zss : List (List Int)} {k : Nat} {es : List Du} {p : Int} {pre : List Int} {A A' : Option Addr} {c c' : Nat} {v v' : Value} (st : PlSt w wr zss k es p pre A c v) (hk : k < zss.length) (hz : wr.heap.size ≤ W.heap.size)
    (hbox : Blk2 W (w.heap.size + 1) (.slice A' (stpD es p (zss.getD k [])).length c') (.int .i64 (stpQ es p (zss.getD k [])))) (hres : Blk2 W w.heap.size (.slice none 0 0) (.int .i64 0)) (hit : Apart W (w.heap.size + 1 + 1) A' (stpD es p (zss.getD k [])) v) (hbel : Below w.heap.size w W)
    (ht : Tg W w3 (w.heap.size + 1 + 1) v v' (pre ++ stpL es p (zss.getD k []))) :
    PlSt w w3 zss (k + 1) (stpD es p (zss.getD k [])) (stpQ es p (zss.getD k [])) (pre ++ stpL es p (zss.getD k [])) A' c' v' := by
  have hbl := st.box.lt
  have hrow : ∀ r, v.ownBlock = some r → w.heap.size + 1 + 1 ≤ r ∧ r < wr.heap.size := fun r hr => st.own.lt r hr
  have hne1 : ∀ j, j < w.heap.size + 1 + 1 → some j ≠ v.ownBlock := fun j h1 e => by have := (hrow j e.symm).1; omega
  have h1len := stpL_few (ds := es) (q := p) (op := zss.getD k [])
  refine ⟨hbox.of_block (ht.grown.block _ hbox.lt (hne1 _ (by omega))), hres.of_block (ht.grown.block _ hres.lt (hne1 _ (by omega))), fun hp => ?_, stpD_few st.few, ht.own, ?_, ?_, ?_⟩
  · obtain ⟨g, h1, h2, h3, h4, h5⟩ := hit hp
    refine ⟨g, h1, h2, by have := ht.grown.size; omega, h4.of_block (ht.grown.block g h3 h5), ?_⟩
    rcases ht.lies with e | ⟨r, e, hr⟩
    · rw [e]; exact h5
    · rw [e]; intro e'; injection e' with e'; omega
  · rw [st.eq, ply_drop hk, List.append_assoc]
  · rw [List.length_append]
    have := st.pl
    omega
  · exact hbel.grown ht.grown (by have := st.old.size; omega) (fun j e => by have := (hrow j e).1; omega)

/-- The list grows by the results of one operation. -/
theorem PlSt.step {w wr w1 w3 : World} {zss : List (List Int)} {k : Nat} {es : List Du} {p : Int} {pre : List Int} {A A' : Option Addr} {c c' : Nat} {v v' : Value} (st : PlSt w wr zss k es p pre A c v) (hk : k < zss.length)
    (hd : DV w1 wr.heap.size w1.heap.size A' (stpD es p (zss.getD k [])) ∨ (A' = A ∧ stpD es p (zss.getD k []) = es)) (hb : Below wr.heap.size wr w1)
    (hown : w3.ownsRow (w.heap.size + 1 + 1) 3 1 v' (pre.length + (stpL es p (zss.getD k [])).length) (pre.map (Value.int .i64) ++ (stpL es p (zss.getD k [])).map (Value.int .i64)))
    (hgr : ((w1.setCell ⟨w.heap.size + 1, 0, none⟩ (.slice A' (stpD es p (zss.getD k [])).length c')).setCell ⟨w.heap.size + 1, 1, none⟩ (.int .i64 (stpQ es p (zss.getD k [])))).grownBy w3 v.ownBlock)
    (hat : v'.ownBlock = v.ownBlock ∨ v'.ownBlock = some w1.heap.size) :
    PlSt w w3 zss (k + 1) (stpD es p (zss.getD k [])) (stpQ es p (zss.getD k [])) (pre ++ stpL es p (zss.getD k [])) A' c' v' := by
  have hbl := st.box.lt
  have hz := hb.size
  have hs2 : ((w1.setCell ⟨w.heap.size + 1, 0, none⟩ (.slice A' (stpD es p (zss.getD k [])).length c')).setCell ⟨w.heap.size + 1, 1, none⟩ (.int .i64 (stpQ es p (zss.getD k [])))).heap.size = w1.heap.size := by simp [World.setCell]
  have hz3 : w1.heap.size ≤ w3.heap.size := by have := hgr.size; rw [hs2] at this; exact this
  have hrow : ∀ r, v.ownBlock = some r → w.heap.size + 1 + 1 ≤ r ∧ r < wr.heap.size := fun r hr => st.own.lt r hr
  have hk1 : ∀ j, j < w1.heap.size → j ≠ w.heap.size + 1 → some j ≠ v.ownBlock → w3.heap[j]? = w1.heap[j]? := fun j h1 h2 h3 =>
    (hgr.block j (by rw [hs2]; exact h1) h3).trans (by rw [heap_setCell_other _ _ _ _ h2, heap_setCell_other _ _ _ _ h2])
  have hne1 : ∀ j, j < w.heap.size + 1 + 1 → some j ≠ v.ownBlock := fun j h1 e => by have := (hrow j e.symm).1; omega
  have h1len := stpL_few (ds := es) (q := p) (op := zss.getD k [])
  refine ⟨?_, ?_, fun hp => ?_, stpD_few st.few, ?_, ?_, ?_, ?_⟩
  · exact ((st.box.below hb).put _ _).of_block (hgr.block _ (by rw [hs2]; omega) (hne1 _ (by omega)))
  · exact (st.res.below hb).of_block (hk1 _ (by omega) (by omega) (hne1 _ (by omega)))
  · have key : ∃ g, A' = some ⟨g, 0, none⟩ ∧ w.heap.size + 1 + 1 ≤ g ∧ g < w1.heap.size ∧ Rd w1 g (stpD es p (zss.getD k [])) ∧ some g ≠ v.ownBlock := by
      rcases hd with hd | ⟨e1, e2⟩
      · obtain ⟨g, h1, h2, h3, h4⟩ := hd hp
        exact ⟨g, h1, by omega, h3, h4, fun e => by have := (hrow g e.symm).2; omega⟩
      · rw [e2] at hp ⊢
        obtain ⟨g, h1, h2, h3, h4, h5⟩ := st.items hp
        exact ⟨g, e1.trans h1, h2, by omega, h4.of_block (hb.block g h3), h5⟩
    obtain ⟨g, h1, h2, h3, h4, h5⟩ := key
    refine ⟨g, h1, h2, by omega, h4.of_block (hk1 g h3 (by omega) h5), ?_⟩
    rcases hat with e | e
    · rw [e]; exact h5
    · rw [e]; intro e'; injection e' with e'; omega
  · rw [List.length_append, List.map_append]
    exact hown
  · rw [st.eq, ply_drop hk, List.append_assoc]
  · rw [List.length_append]
    have := st.pl
    omega
  · have h2 : Below w.heap.size w w1 := st.old.trans (hb.mono st.old.size)
    exact (((h2.setCell (show w.heap.size ≤ w.heap.size + 1 by omega) _).setCell (show w.heap.size ≤ w.heap.size + 1 by omega) _).grown hgr (by rw [hs2]; omega) (fun j e => by have := (hrow j e).1; omega))

set_option maxRecDepth 100000 in
set_option maxHeartbeats 2000000 in
theorem implPlay_rows (gO n cap hi : Nat) (B C : Nat → Nat) (zss : List (List Int)) (w : World) (hn : zss.length = n) (hm : n ≤ 1048576) (hi0 : ∀ i, i < n → (zss.getD i []).length ≤ 1048576) (h : RS w hi gO B C zss) (hs : hi ≤ w.heap.size) :
    Calls Try.prog 15 #[.slice (some ⟨gO, 0, none⟩) n cap] w (PlayEnd w (plyA zss)) := by
  have Hn := Lib.hid hn
  have HO := Lib.hid h
  have Hi := Lib.hid hi0
  clear hn h hi0
  by_cases h300 : 300 < n
  · have hA : plyA zss = ([], 0, []) := by unfold plyA; rw [if_pos (by rw [Hn.out]; exact h300)]
    rw [hA]
    clear hA
    go_enter Try.func15, Try.ntmps15
    go_wp2
    refine bodyPost_ret (v := .tuple #[.agg #[.slice none 0 0, .int .i64 0], .slice none 0 0]) (by simp [results, Try.results15, go_sem]) rfl ?_
    exact ⟨none, 0, none, 0, rfl, fun h => absurd h (by simp), World.ownsRow_nil _ _ _ _, bel_alloc _ _⟩
  have HA : Hid (plyA zss = ply zss [] 0) := by show plyA zss = _; unfold plyA; rw [if_neg (by rw [Hn.out]; exact h300)]
  rw [HA.out]
  clear HA
  obtain ⟨i0, hi0, hz0, hz1, hz2⟩ := info_parts infoInt
  have Hi0 := Lib.hid hi0
  have Hz0 := Lib.hid hz0
  have Hz1 := Lib.hid hz1
  have Hz2 := Lib.hid hz2
  clear hi0 hz0 hz1 hz2
  have hn3 : ¬ (300 : Int) < (n : Int) := by omega
  go_enter Try.func15, Try.ntmps15
  go_wp2_with fail
  go_loopw [5, 15] (fun x i wr => ∃ (v : Value) (k : Nat) (es : List Du) (p : Int) (pre : List Int) (A : Option Addr) (c : Nat), v = x ∧ k ≤ n ∧ i = .int .i64 k ∧ PlSt w wr zss k es p pre A c v) (fun _ i _ => n - (intOf i).toNat)
  case atStart =>
    refine ⟨_, 0, [], 0, [], none, 0, rfl, Nat.zero_le _, rfl, ⟨?_, ?_, fun h => absurd h (by simp), by simp, World.ownsRow_nil _ _ _ _, rfl, by simp, ((Below.refl _ _).alloc (Nat.le_refl _) _).alloc (by simp) _⟩⟩
    · have h := heap_alloc_new (w.alloc (.cells #[.slice none 0 0, .int .i64 0] 28)) (.cells #[.slice none 0 0, .int .i64 0] 28)
      rw [World.size_alloc] at h
      exact h
    · exact Blk2.alloc (heap_alloc_new w _) _
  case round =>
    obtain ⟨v, k, es, p, pre, A, c, hv, hk, rfl, st⟩ := hrel
    subst hv
    have St := Lib.hid st
    clear st
    obtain ⟨t0, t1, tf⟩ := St.out.box.cells
    have htl := St.out.box.lt
    by_cases hlt : k < n
    · have e1 := (HO.out.below St.out.old hs).row k (by have := Hn.out; omega)
      have r1 := (HO.out.below St.out.old hs).inner k (by have := Hn.out; omega)
      have hbk : B k < wr.heap.size := by have := HO.out.bs k (by have := Hn.out; omega); have := St.out.old.size; omega
      have hk0 : (0 : Int) ≤ (k : Int) := by omega
      have hk1 : (k : Int) < (n : Int) := by omega
      have HC : Hid (Calls Try.prog 51 #[.agg #[.slice A es.length c, .int .i64 p], .slice (some ⟨B k, 0, none⟩) (zss.getD k []).length (C k)] wr (StepEnd wr A es (stpD es p (zss.getD k [])) (stpQ es p (zss.getD k [])) (stpL es p (zss.getD k [])))) :=
        playDue_any A es.length c _ _ (B k) (C k) es p (zss.getD k []) wr rfl St.out.few St.out.items.dv (Nat.le_refl _) r1 hbk (Hi.out k hlt) (HO.out.room k (by have := Hn.out; omega))
      clear r1
      obtain ⟨ok, hok⟩ : ∃ ok, (zss.getD k []).length = ok := ⟨_, rfl⟩
      rw [hok] at e1 HC
      clear hok
      generalize C k = ck at e1 HC
      obtain ⟨el, hel⟩ : ∃ el, es.length = el := ⟨_, rfl⟩
      rw [hel] at t0 HC
      clear hel
      go_wp2_with fail
      refine HC.out.mono ?_
      rintro e w1 ⟨A', c', gi, ci, rfl, hd, hri, hgi1, hgi2, hb⟩
      have Y1 := Lib.hid (St.out.box.below hb)
      have HD := Lib.hid hd
      have HB := Lib.hid hb
      have hz1 : wr.heap.size ≤ w1.heap.size := hb.size
      have Hnews : Hid (∀ j u, ((stpL es p (zss.getD k [])).map (Value.int .i64))[j]? = some u → ((w1.setCell ⟨w.heap.size + 1, 0, none⟩ (.slice A' (stpD es p (zss.getD k [])).length c')).setCell ⟨w.heap.size + 1, 1, none⟩ (.int .i64 (stpQ es p (zss.getD k [])))).cell? ((⟨gi, 0, none⟩ : Addr).add j) = some u) :=
        news_ri (hri.of_block (by rw [heap_setCell_other _ _ _ _ (by show gi ≠ w.heap.size + 1; omega), heap_setCell_other _ _ _ _ (by show gi ≠ w.heap.size + 1; omega)]))
      have HOw : Hid (((w1.setCell ⟨w.heap.size + 1, 0, none⟩ (.slice A' (stpD es p (zss.getD k [])).length c')).setCell ⟨w.heap.size + 1, 1, none⟩ (.int .i64 (stpQ es p (zss.getD k [])))).ownsRow (w.heap.size + 1 + 1) 3 1 v pre.length (pre.map (Value.int .i64))) :=
        owns_other (p := w.heap.size + 1) (owns_below St.out.own hb (Nat.le_refl _)) (fun j hj => by rw [heap_setCell_other _ _ _ _ hj, heap_setCell_other _ _ _ _ hj]) (fun e => by have := (St.out.own.lt _ e.symm).1; omega)
      have HSt : Hid (∀ v' w3, w3.ownsRow (w.heap.size + 1 + 1) 3 1 v' (pre.length + (stpL es p (zss.getD k [])).length) (pre.map (Value.int .i64) ++ (stpL es p (zss.getD k [])).map (Value.int .i64)) → ((w1.setCell ⟨w.heap.size + 1, 0, none⟩ (.slice A' (stpD es p (zss.getD k [])).length c')).setCell ⟨w.heap.size + 1, 1, none⟩ (.int .i64 (stpQ es p (zss.getD k [])))).grownBy w3 v.ownBlock → (v'.ownBlock = v.ownBlock ∨ v'.ownBlock = some w1.heap.size) →
        PlSt w w3 zss (k + 1) (stpD es p (zss.getD k [])) (stpQ es p (zss.getD k [])) (pre ++ stpL es p (zss.getD k [])) A' c' v') := fun v' w3 h1 h2 h3 => St.out.step (by have := Hn.out; omega) HD.out HB.out h1 h2 h3
      have hlen := (stpL_few (ds := es) (q := p) (op := zss.getD k []))
      have hpl := St.out.pl
      obtain ⟨D1, hD1⟩ : ∃ D1, stpD es p (zss.getD k []) = D1 := ⟨_, rfl⟩
      obtain ⟨Q1, hQ1⟩ : ∃ Q1, stpQ es p (zss.getD k []) = Q1 := ⟨_, rfl⟩
      obtain ⟨L1, hL1⟩ : ∃ L1, stpL es p (zss.getD k []) = L1 := ⟨_, rfl⟩
      rw [hD1, hQ1, hL1] at HSt
      rw [hD1, hQ1] at HOw
      rw [hD1, hQ1, hL1] at Hnews
      rw [hL1] at hlen
      rw [hD1, hQ1, hL1]
      obtain ⟨dl, hdl⟩ : ∃ dl, D1.length = dl := ⟨_, rfl⟩
      obtain ⟨ll, hll⟩ : ∃ ll, L1.length = ll := ⟨_, rfl⟩
      rw [hdl] at HSt HOw Hnews
      rw [hll] at HSt hlen
      have Hll := Lib.hid hll
      rw [hdl, hll]
      clear hd hri hb hD1 hQ1 hL1 hdl hll t0 t1 tf e1
      obtain ⟨t0, t1, tf⟩ := Y1.out.cells
      have htl1 := Y1.out.lt
      go_wp2_with (at_builtin; refine wpList_append_own_at _ rfl _ _ 29 rfl (w.heap.size + 1 + 1) 3 i0 _ 1 8 Try.underlying29 Hi0.out Hz0.out Hz1.out Hz2.out rfl (by decide) v pre.length (pre.map (Value.int .i64)) rfl ?c0h ⟨gi, 0, none⟩ ll ci (L1.map (Value.int .i64)) rfl ?c6h ?c1h ?c2h ?c3h ?c4h ?c5h ?_)
      case c0h => exact HOw.out
      case c6h => rw [List.length_map, Hll.out]; omega
      case c1h => exact Hnews.out
      case c2h => intro u hu; obtain ⟨z, _, rfl⟩ := List.mem_map.1 hu; rfl
      case c3h => unfold maxLen; omega
      case c4h => omega
      case c5h => simp [World.setCell]; omega
      intro v' w3 hown hgr _ hat
      have hat2 : v'.ownBlock = v.ownBlock ∨ v'.ownBlock = some w1.heap.size := by
        rcases hat with e | e
        · exact .inl e
        · exact .inr (by first | exact e | (rw [e]; simp [World.setCell]))
      have HQ := Lib.hid (HSt.out v' w3 hown hgr hat2)
      clear hown hgr hat hat2 t0 t1 tf
      go_wp2
      go_roundw
      case rel => exact ⟨v', k + 1, D1, Q1, pre ++ L1, A', c', rfl, by omega, by go_num, HQ.out⟩
      case measure => simp [intOf]; omega
    · obtain rfl : k = n := by omega
      obtain ⟨y0, y1, yf⟩ := St.out.res.cells
      have hyl := St.out.res.lt
      obtain ⟨A2, c2, rfl⟩ := owns_form St.out.own
      have hne : w.heap.size ≠ w.heap.size + 1 := by omega
      have HF : Hid (PlayEnd w (ply zss [] 0) (.returned (.tuple #[.agg #[.slice A es.length c, .int .i64 p], .slice A2 pre.length c2])) ((wr.setCell ⟨w.heap.size, 0, none⟩ (.slice A es.length c)).setCell ⟨w.heap.size, 1, none⟩ (.int .i64 p))) := by
        have h1 := St.out.eq
        rw [List.drop_eq_nil_of_le (by have := Hn.out; omega)] at h1
        simp only [ply, List.append_nil] at h1
        rw [h1]
        have hk : ∀ j, j ≠ w.heap.size → ((wr.setCell ⟨w.heap.size, 0, none⟩ (.slice A es.length c)).setCell ⟨w.heap.size, 1, none⟩ (.int .i64 p)).heap[j]? = wr.heap[j]? := fun j hj => by rw [heap_setCell_other _ _ _ _ hj, heap_setCell_other _ _ _ _ hj]
        have hsz : ((wr.setCell ⟨w.heap.size, 0, none⟩ (.slice A es.length c)).setCell ⟨w.heap.size, 1, none⟩ (.int .i64 p)).heap.size = wr.heap.size := by simp [World.setCell]
        refine ⟨A, c, A2, c2, rfl, fun hp => ?_, owns_low (owns_other St.out.own hk (fun e => by have := (St.out.own.lt _ e.symm).1; omega)) (by omega), (St.out.old.setCell (Nat.le_refl _) _).setCell (Nat.le_refl _) _⟩
        obtain ⟨g, h2, h3, h4, h5, h6⟩ := St.out.items hp
        exact ⟨g, h2, by omega, by rw [hsz]; exact h4, h5.of_block (hk g (by omega)), h6⟩
      obtain ⟨el, hel⟩ : ∃ el, es.length = el := ⟨_, rfl⟩
      rw [hel] at t0 HF
      clear hel
      go_wp2
      exact bodyPost_ret (v := .tuple #[.agg #[.slice A el c, .int .i64 p], .slice A2 pre.length c2]) (by simp [results, Try.results15, go_sem, y0, y1]) rfl HF.out
theorem implPlay_any (gO n cap lo hi : Nat) (B : Nat → Nat) (zss : List (List Int)) (w : World) (hn : zss.length = n) (hm : n ≤ 1048576) (hi0 : ∀ i, i < n → (zss.getD i []).length ≤ 1048576) (h : SS w lo hi gO B zss) (hs : hi ≤ w.heap.size) :
    Calls Try.prog 15 #[.slice (some ⟨gO, 0, none⟩) n cap] w (PlayEnd w (plyA zss)) := implPlay_rows gO n cap hi B _ zss w hn hm hi0 h.rs hs
end Go.Proofs.Ytnmhdbfemobhkaa.Hp
