/- The program's PlayConn. -/
import Derived.Test.YtbmfleakldhabaaDoorKnB
import Derived.Test.YtbmfleakldhabaaDoorKnG
namespace Go.Proofs.YtbmfleakldhabaaDoor.Kn
open Go.RowKit Go.Deep Base Tick Rw

theorem oneIf_any (b : Bool) (w : World) : Calls Tryd.prog 37 #[.bool b] w fun e w' => e = .returned (.int .i64 (b2n b)) ∧ w = w' := by
  cases b
  · go_enter Tryd.func37, Tryd.ntmps37
    go_wp2
    go_ret
    exact ⟨rfl, rfl⟩
  · go_enter Tryd.func37, Tryd.ntmps37
    go_wp2
    go_ret
    exact ⟨rfl, rfl⟩

theorem op3 {op : List Int} (h : op.length = 3) : ∃ x y z, op = [x, y, z] := by
  match op, h with
  | [x, y, z], _ => exact ⟨x, y, z, rfl⟩

theorem plEnd_no {id : Int} {zss : List (List Int)} {w w' : World} (h : goP id zss = false) (hb : Below w.heap.size w w') : PlEnd id zss w (.returned (.tuple #[.agg #[.int .i64 0, .int .i64 0, .int .i64 0, .int .i64 0, .int .i64 0, .bool false], .slice none 0 0])) w' := by
  have h1 : finP id zss = (fun _ => 0, false) := by unfold finP; rw [h]; rfl
  have h2 : tolP id zss = [] := by unfold tolP; rw [h]; rfl
  refine ⟨none, 0, ?_, ?_, hb⟩
  · rw [h1, h2]; rfl
  · rw [h2]; exact IV.nil _ _ _ _

theorem plEnd_yes {id : Int} {zss : List (List Int)} {w w' : World} {k : Nat → Int} {t : Bool} {ids : List Int} {A : Option Addr} {c n : Nat} (h : goP id zss = true) (hf : plS id zss zss.length = (k, t)) (ht : plT id zss zss.length = ids) (hn : ids.length = n) (hi : IV w' w.heap.size w'.heap.size A ids) (hb : Below w.heap.size w w') : PlEnd id zss w (.returned (.tuple #[.agg #[.int .i64 (k 0), .int .i64 (k 1), .int .i64 (k 2), .int .i64 (k 3), .int .i64 (k 4), .bool t], .slice A n c])) w' := by
  have h1 : finP id zss = (k, t) := by unfold finP; rw [h, hf]; rfl
  have h2 : tolP id zss = ids := by unfold tolP; rw [h, ht]; rfl
  refine ⟨A, c, ?_, ?_, hb⟩
  · rw [h1, h2, hn]
  · rw [h2]; exact hi

/-- What is known of the event at place j of the list that came in. -/
theorem ev_at {w : World} {A : Option Addr} {zss : List (List Int)} (h : IntsS w A zss) {j : Nat} (hj : j < zss.length) :
    ∃ b off Ai ci, A = some ⟨b, off, none⟩ ∧ b < w.heap.size ∧ w.cell? ⟨b, off + j, none⟩ = some (.slice Ai (zss.getD j []).length ci) ∧ Ints w Ai (zss.getD j []) := by
  obtain ⟨b, off, rfl, hc⟩ := h (by omega)
  obtain ⟨Ai, ci, h1, h2⟩ := hc j hj
  exact ⟨b, off, Ai, ci, rfl, World.block_lt_of_cell? _ _ h1, h1, h2⟩

/-- Three integers from a place on. -/
def Tri (e o : Nat) (x y z : Int) (V : World) : Prop := V.cell? ⟨e, o, none⟩ = some (.int .i64 x) ∧ V.cell? ⟨e, o + 1, none⟩ = some (.int .i64 y) ∧ V.cell? ⟨e, o + 2, none⟩ = some (.int .i64 z)
theorem Tri.of_block {e o : Nat} {x y z : Int} {V W : World} (h : Tri e o x y z V) (q : W.heap[e]? = V.heap[e]?) : Tri e o x y z W := ⟨(World.cell?_of_block q).trans h.1, (World.cell?_of_block q).trans h.2.1, (World.cell?_of_block q).trans h.2.2⟩
theorem tri_of {w : World} {A : Option Addr} {x y z : Int} (h : Ints w A [x, y, z]) : ∃ e o, A = some ⟨e, o, none⟩ ∧ e < w.heap.size ∧ Tri e o x y z w := by
  obtain ⟨e, o, rfl, hc⟩ := h (by simp)
  have h0 := hc 0 (by simp)
  have h1 := hc 1 (by simp)
  have h2 := hc 2 (by simp)
  exact ⟨e, o, rfl, World.block_lt_of_cell? _ _ h1, h0, h1, h2⟩

set_option maxRecDepth 100000 in
set_option maxHeartbeats 4000000 in
theorem implPlay_any (id : Int) (A : Option Addr) (n cap : Nat) (zss : List (List Int)) (p : Addr) (w : World) (hn : zss.length = n) (hm : n ≤ 1048576) (hi0 : ∀ i, i < n → (zss.getD i []).length ≤ 1048576) (h : IntsS w A zss) (he : Er p w) :
    Calls Tryd.prog 10 #[.int .i64 id, .slice A n cap] w (PlEnd id zss w) := by
  have Hn := Lib.hid hn
  have HI := Lib.hid h
  have HE := Lib.hid he
  have Hi := Lib.hid hi0
  have HGo : Hid (goP id zss = (newB id 0 && decide (n ≤ 300))) := by show _ = _; rw [← hn]; rfl
  have HN := Lib.hid (fun W => implNewConn_any id 0 W)
  unfold NewEnd at HN
  have HP0 : Hid (plS id zss 0 = (newN id 0, false)) := rfl
  clear hn h he hi0
  generalize newN id 0 = k0 at HN HP0
  generalize newB id 0 = nb at HN HGo
  have HZ : Hid (ZB w.heap.size (w.alloc (.cells #[.int .i64 0, .int .i64 0, .int .i64 0, .int .i64 0, .int .i64 0, .bool false] 28))) := heap_alloc_new w _
  have B := Lib.hid (bel_alloc w (.cells #[.int .i64 0, .int .i64 0, .int .i64 0, .int .i64 0, .int .i64 0, .bool false] 28))
  go_enter Tryd.func10, Tryd.ntmps10
  go_wp2_with fail
  refine (HN.out _).mono ?_
  rintro r w1 ⟨rfl, b1⟩
  replace HZ := Lib.hid (HZ.out.below b1)
  replace B := Lib.hid (bel_trans B.out b1)
  have HK := Lib.hid (KB.new k0 false w1)
  have zg : w.heap.size < w1.heap.size := by have := b1.size; simp at this; omega
  clear b1 HN
  cases nb
  · have Hg : Hid (goP id zss = false) := by show _ = _; rw [HGo.out]; rfl
    obtain ⟨z0, z1, z2, z3, z4, z5, zf⟩ := HZ.out.cells
    obtain ⟨f0, f1, f2, f3, f4, f5⟩ := stored6 HZ.out (.int .i64 0) (.int .i64 0) (.int .i64 0) (.int .i64 0) (.int .i64 0) (.bool false) (.cells #[.int .i64 (k0 0), .int .i64 (k0 1), .int .i64 (k0 2), .int .i64 (k0 3), .int .i64 (k0 4), .bool false] 28)
    go_wp2
    refine bodyPost_ret (v := .tuple #[.agg #[.int .i64 0, .int .i64 0, .int .i64 0, .int .i64 0, .int .i64 0, .bool false], .slice none 0 0]) (by simp [results, go_sem, f0, f1, f2, f3, f4, f5]) rfl (plEnd_no Hg.out (B.out.trans ?_))
    refine Below.alloc ?_ (by simp [World.setCell]; omega) _
    iterate 6 refine Below.setCell ?_ (by show w.heap.size ≤ w.heap.size; exact Nat.le_refl _) _
    exact Below.refl _ _
  by_cases hl : 300 < n
  · have Hg : Hid (goP id zss = false) := by show _ = _; rw [HGo.out, decide_eq_false (by omega)]; rfl
    have hl2 : (300 : Int) < (n : Int) := by omega
    clear hl HK
    obtain ⟨z0, z1, z2, z3, z4, z5, zf⟩ := HZ.out.cells
    obtain ⟨f0, f1, f2, f3, f4, f5⟩ := stored6 HZ.out (.int .i64 0) (.int .i64 0) (.int .i64 0) (.int .i64 0) (.int .i64 0) (.bool false) (.cells #[.int .i64 (k0 0), .int .i64 (k0 1), .int .i64 (k0 2), .int .i64 (k0 3), .int .i64 (k0 4), .bool false] 28)
    go_wp2
    refine bodyPost_ret (v := .tuple #[.agg #[.int .i64 0, .int .i64 0, .int .i64 0, .int .i64 0, .int .i64 0, .bool false], .slice none 0 0]) (by simp [results, go_sem, f0, f1, f2, f3, f4, f5]) rfl (plEnd_no Hg.out (B.out.trans ?_))
    refine Below.alloc ?_ (by simp [World.setCell]; omega) _
    iterate 6 refine Below.setCell ?_ (by show w.heap.size ≤ w.heap.size; exact Nat.le_refl _) _
    exact Below.refl _ _
  have Hg : Hid (goP id zss = true) := by show _ = _; rw [HGo.out, decide_eq_true (by omega)]; rfl
  have hl3 : ¬ (300 : Int) < (n : Int) := by omega
  have hn3 : n ≤ 300 := by omega
  clear hl HGo
  obtain ⟨g, hg⟩ : ∃ g, w1.heap.size = g := ⟨_, rfl⟩
  have HC0 : Hid (Pc w (w1.alloc (.cells #[.int .i64 (k0 0), .int .i64 (k0 1), .int .i64 (k0 2), .int .i64 (k0 3), .int .i64 (k0 4), .bool false] 28)) g (.slice none 0 0) (plS id zss 0).1 (plS id zss 0).2 (plT id zss 0)) := by
    show Pc _ _ _ _ _ _ _
    rw [HP0.out]
    exact ⟨World.ownsRow_nil _ _ _ _, hg ▸ HK.out, HZ.out.below (bel_alloc _ _), bel_trans B.out (bel_alloc _ _), by omega⟩
  obtain ⟨i0, hi0, hz0, hz1, hz2⟩ := info_parts infoInt
  have Hi0 := Lib.hid hi0
  have Hz0 := Lib.hid hz0
  have Hz1 := Lib.hid hz1
  have Hz2 := Lib.hid hz2
  clear hi0 hz0 hz1 hz2 HK HZ B HP0
  have hg2 : w.heap.size < g := by omega
  have Hgs := Lib.hid hg
  clear hg
  go_wp2_with fail
  rw [Hgs.out]
  clear Hgs zg
  go_loopw [8, 27] (fun x i wr => ∃ (v : Value) (j : Nat), v = x ∧ j ≤ n ∧ i = .int .i64 j ∧ Pc w wr g v (plS id zss j).1 (plS id zss j).2 (plT id zss j)) (fun _ i _ => n - (intOf i).toNat)
  case atStart => exact ⟨_, 0, rfl, Nat.zero_le _, rfl, HC0.out⟩
  case round =>
    obtain ⟨v, j, hv, hj, rfl, hst⟩ := hrel
    subst hv
    have Hst := Lib.hid hst
    have zz : w.heap.size ≤ wr.heap.size := hst.old.size
    clear hst HC0
    by_cases hlt : j < n
    · obtain ⟨b, off, Ai, ci, rfl, hb, h1, h2⟩ := ev_at HI.out (j := j) (by have := Hn.out; omega)
      have h1r : wr.cell? ⟨b, off + j, none⟩ = some (.slice Ai (zss.getD j []).length ci) := (Hst.out.old.cell (p := ⟨b, off + j, none⟩) hb).trans h1
      have hol := Hi.out j hlt
      have HG : Hid (∀ v5 w5, Pc w w5 g v5 (plC (plS id zss j) (zss.getD j [])).1 (plC (plS id zss j) (zss.getD j [])).2 (plT id zss j ++ [b2n (plB (plS id zss j) (zss.getD j []))]) → Pc w w5 g v5 (plS id zss (j + 1)).1 (plS id zss (j + 1)).2 (plT id zss (j + 1))) := fun v5 w5 hp => by rw [plT_succ]; exact hp
      have hil := plT_len id zss j
      generalize plT id zss j = ids at Hst HG hil
      have Hil := Lib.hid hil
      clear hil h1
      obtain ⟨⟨k, t⟩, hs⟩ : ∃ s, plS id zss j = s := ⟨_, rfl⟩
      rw [hs] at Hst HG
      dsimp only at Hst
      clear hs
      obtain ⟨op, hop⟩ : ∃ op, zss.getD j [] = op := ⟨_, rfl⟩
      rw [hop] at h1r h2 hol HG
      have H2 := Lib.hid h2
      clear hop h2
      have hk0 : (0 : Int) ≤ (j : Int) := by omega
      have hk1 : (j : Int) < (n : Int) := by omega
      obtain ⟨A', cap', rfl⟩ := owns_form Hst.out.own
      by_cases h3 : op.length = 3
      · obtain ⟨x, y, z, rfl⟩ := op3 h3
        obtain ⟨e, o, rfl, he, htri⟩ := tri_of H2.out
        have hC : plC (k, t) [x, y, z] = (stR k t x y z, stT k t x y z) := rfl
        have hB : plB (k, t) [x, y, z] = canS k t x y z := rfl
        rw [hC, hB] at HG
        have HST := Lib.hid (fun W hE => implStep_any k t x y z p W hE)
        unfold StEnd at HST
        generalize stR k t x y z = q at HST HG
        generalize stT k t x y z = qt at HST HG
        generalize canS k t x y z = qb at HST HG
        clear hC hB h3 hol
        simp only [List.length_cons, List.length_nil, Nat.zero_add, Nat.reduceAdd] at h1r
        have HTr : Hid (∀ V, V.heap[e]? = w.heap[e]? → Tri e o x y z V) := fun V hV => htri.of_block hV
        have hew : wr.heap[e]? = w.heap[e]? := Hst.out.old.block e he
        clear htri H2
        go_wp2_with fail
        have HH : Hid (Below wr.heap.size wr wr.drew) := (Below.refl _ _).drew
        have HS : Hid (Tri e o x y z wr.drew) := HTr.out _ hew
        refine wp_region_held_drew (S := Tri e o x y z) (by kernel_rfl) HS.out (fun _ => ?_)
        refine wpAnyH_take (i := 1) (v := (.slice (some ⟨e, o, none⟩) 3 ci)) rfl (by kernel_rfl) (by kernel_rfl) (by kernel_rfl) (fun _ _ _ h => h) (.inl ⟨rfl, fun V hS => ?y0⟩) HS.out ?_
        case y0 =>
          clear hS
          go_simp
        go_simp
        refine wpAnyH_take (i := 2) (v := (.pointer (some ⟨e, o, none⟩))) rfl (by kernel_rfl) (by kernel_rfl) (by kernel_rfl) (fun _ _ _ h => h) (.inl ⟨rfl, fun V hS => ?y0⟩) HS.out ?_
        case y0 =>
          clear hS
          go_simp
        go_simp
        refine wpAnyH_take (i := 3) (v := (.int .i64 x)) rfl (by kernel_rfl) (by kernel_rfl) (by kernel_rfl) (fun _ _ _ h => h) (.inl ⟨rfl, fun V hS => ?y0⟩) HS.out ?_
        case y0 =>
          obtain ⟨y0, y1, y2⟩ := hS
          go_simp
        go_simp
        refine wpAnyH_take (i := 4) (v := (.slice (some ⟨e, o, none⟩) 3 ci)) rfl (by kernel_rfl) (by kernel_rfl) (by kernel_rfl) (fun _ _ _ h => h) (.inl ⟨rfl, fun V hS => ?y0⟩) HS.out ?_
        case y0 =>
          clear hS
          go_simp
        go_simp
        refine wpAnyH_take (i := 5) (v := (.pointer (some ⟨e, o + 1, none⟩))) rfl (by kernel_rfl) (by kernel_rfl) (by kernel_rfl) (fun _ _ _ h => h) (.inl ⟨rfl, fun V hS => ?y0⟩) HS.out ?_
        case y0 =>
          clear hS
          go_simp
        go_simp
        refine wpAnyH_take (i := 6) (v := (.int .i64 y)) rfl (by kernel_rfl) (by kernel_rfl) (by kernel_rfl) (fun _ _ _ h => h) (.inl ⟨rfl, fun V hS => ?y0⟩) HS.out ?_
        case y0 =>
          obtain ⟨y0, y1, y2⟩ := hS
          go_simp
        go_simp
        refine wpAnyH_take (i := 7) (v := (.slice (some ⟨e, o, none⟩) 3 ci)) rfl (by kernel_rfl) (by kernel_rfl) (by kernel_rfl) (fun _ _ _ h => h) (.inl ⟨rfl, fun V hS => ?y0⟩) HS.out ?_
        case y0 =>
          clear hS
          go_simp
        go_simp
        refine wpAnyH_take (i := 8) (v := (.pointer (some ⟨e, o + 2, none⟩))) rfl (by kernel_rfl) (by kernel_rfl) (by kernel_rfl) (fun _ _ _ h => h) (.inl ⟨rfl, fun V hS => ?y0⟩) HS.out ?_
        case y0 =>
          clear hS
          go_simp
        go_simp
        refine wpAnyH_take (i := 9) (v := (.int .i64 z)) rfl (by kernel_rfl) (by kernel_rfl) (by kernel_rfl) (fun _ _ _ h => h) (.inl ⟨rfl, fun V hS => ?y0⟩) HS.out ?_
        case y0 =>
          obtain ⟨y0, y1, y2⟩ := hS
          go_simp
        go_simp
        refine wpAnyH_ready (rs := [0]) (by kernel_rfl) (by simp) (AllReadyH.cons rfl (fun J hJ => ?_) AllReadyH.nil)
        obtain ⟨c0, c1, c2, c3, c4, c5⟩ := Hst.out.box.kc
        go_simp
        refine hJ.out _ _ HS.out (fun _ => ?_)
        clear hJ J c0 c1 c2 c3 c4 c5
        go_simp
        refine wpAnyH_ready (rs := [10]) (by kernel_rfl) (by simp) (AllReadyH.cons rfl (fun J hJ => ?_) AllReadyH.nil)
        go_simp
        refine (HST.out _ (HE.out.below (Hst.out.old.trans (HH.out.mono zz)))).mono ?_
        rintro r w8 ⟨rfl, b8⟩
        replace HH := Lib.hid (bel_trans HH.out b8)
        replace HS := Lib.hid (HS.out.of_block (b8.block e (by have := HH.out.size; simp; omega)))
        have HPk := Lib.hid (Hst.out.keep HH.out)
        clear b8
        refine hJ.out _ _ HS.out (fun _ => ?_)
        clear hJ J
        go_simp
        refine wpAnyH_take (i := 11) (v := (.tuple #[.agg #[.int .i64 (q 0), .int .i64 (q 1), .int .i64 (q 2), .int .i64 (q 3), .int .i64 (q 4), .bool qt], .bool qb])) rfl (by kernel_rfl) (by kernel_rfl) (by kernel_rfl) (fun _ _ _ h => h) (.inl ⟨rfl, fun V hS => ?y0⟩) HS.out ?_
        case y0 =>
          clear hS
          go_simp
        go_simp
        refine wpAnyH_take (i := 12) (v := (.agg #[.int .i64 (q 0), .int .i64 (q 1), .int .i64 (q 2), .int .i64 (q 3), .int .i64 (q 4), .bool qt])) rfl (by kernel_rfl) (by kernel_rfl) (by kernel_rfl) (fun _ _ _ h => h) (.inl ⟨rfl, fun V hS => ?y0⟩) HS.out ?_
        case y0 =>
          clear hS
          go_simp
        go_simp
        refine wpAnyH_take (i := 13) (v := (.bool qb)) rfl (by kernel_rfl) (by kernel_rfl) (by kernel_rfl) (fun _ _ _ h => h) (.inl ⟨rfl, fun V hS => ?y0⟩) HS.out ?_
        case y0 =>
          clear hS
          go_simp
        go_simp
        refine wpAnyH_ready (rs := [14]) (by kernel_rfl) (by simp) (AllReadyH.cons rfl (fun J hJ => ?_) AllReadyH.nil)
        obtain ⟨c0, c1, c2, c3, c4, c5⟩ := HPk.out.box.kc
        have cf := HPk.out.box.frozen
        go_simp
        clear c0 c1 c2 c3 c4 c5 cf
        have hst9 := HPk.out.box.store (q := q) (s := qt)
        obtain ⟨v9, hv9⟩ : ∃ W', (((((w8.setCell ⟨g, 0, none⟩ (.int .i64 (q 0))).setCell ⟨g, 1, none⟩ (.int .i64 (q 1))).setCell ⟨g, 2, none⟩ (.int .i64 (q 2))).setCell ⟨g, 3, none⟩ (.int .i64 (q 3))).setCell ⟨g, 4, none⟩ (.int .i64 (q 4))).setCell ⟨g, 5, none⟩ (.bool qt) = W' := ⟨_, rfl⟩
        rw [hv9] at hst9 ⊢
        have HP := Lib.hid (HPk.out.turn hst9.2 hst9.1)
        replace HS := Lib.hid (HS.out.of_block (hst9.2.block e (by have := HH.out.size; omega) (.inl (by omega))))
        clear hv9 hst9 HPk
        refine hJ.out _ _ HS.out (fun _ => ?_)
        clear hJ J
        go_simp
        refine wpAnyH_take (i := 15) (v := (.bool qb)) rfl (by kernel_rfl) (by kernel_rfl) (by kernel_rfl) (fun _ _ _ h => h) (.inl ⟨rfl, fun V hS => ?y0⟩) HS.out ?_
        case y0 =>
          clear hS
          go_simp
        go_simp
        refine wpAnyH_done (by kernel_rfl) ?_ _
        have hown := HP.out.own
        rw [Hil.out] at hown
        have Hown := Lib.hid hown
        clear hown
        rw [Hil.out]
        have zg9 : g < v9.heap.size := HP.out.box.lt
        go_wp2_with fail
        refine (oneIf_any qb _).mono ?_
        rintro r w' ⟨rfl, rfl⟩
        go_wp2_with (at_builtin; refine wpList_append_own _ rfl _ _ 29 rfl (g + 1) 3 i0 (.int .i64 0) 1 8 Tryd.underlying29 Hi0.out Hz0.out Hz1.out Hz2.out rfl (by decide) _ j (ids.map (Value.int .i64)) rfl (Hown.out.alloc _) ⟨v9.heap.size, 0, none⟩ 1 1 [.int .i64 (b2n qb)] rfl rfl ?c1h ?c2h ?c3h ?c4h ?c5h ?_)
        case c1h => exact new_one_at rfl _ _
        case c2h => simp [Value.oneCell']
        case c3h => unfold maxLen; omega
        case c4h => omega
        case c5h => simp; omega
        intro v5 w5 hown5 hgr5 _
        have hp5 := HP.out.push (o := .cells #[.int .i64 (b2n qb)] 3) (by rw [Hil.out]; exact hown5) (by rw [Hil.out]; exact hgr5)
        have HQ := Lib.hid (HG.out v5 w5 hp5)
        clear hp5 hown5 hgr5
        go_wp2
        go_roundw
        case rel => exact ⟨_, j + 1, rfl, by omega, by go_num, HQ.out⟩
        case measure => simp [intOf]; omega
      · have hC : plC (k, t) op = (k, t) := if_neg h3
        have hB : plB (k, t) op = false := if_neg h3
        rw [hC, hB] at HG
        obtain ⟨ol, hol'⟩ : ∃ ol, op.length = ol := ⟨_, rfl⟩
        rw [hol'] at h3 hol h1r
        have h3' : ((ol : Int) == 3) = false := by simp; omega
        clear hol' hC hB
        obtain ⟨v9, rfl⟩ : ∃ v9, v9 = wr := ⟨_, rfl⟩
        have HP := Hst
        have hown := HP.out.own
        rw [Hil.out] at hown
        have Hown := Lib.hid hown
        clear hown Hst
        rw [Hil.out]
        have zg9 : g < v9.heap.size := HP.out.box.lt
        go_wp2_with fail
        refine (oneIf_any false _).mono ?_
        rintro r w' ⟨rfl, rfl⟩
        go_wp2_with (at_builtin; refine wpList_append_own _ rfl _ _ 29 rfl (g + 1) 3 i0 (.int .i64 0) 1 8 Tryd.underlying29 Hi0.out Hz0.out Hz1.out Hz2.out rfl (by decide) _ j (ids.map (Value.int .i64)) rfl (Hown.out.alloc _) ⟨v9.heap.size, 0, none⟩ 1 1 [.int .i64 (b2n false)] rfl rfl ?c1h ?c2h ?c3h ?c4h ?c5h ?_)
        case c1h => exact new_one_at rfl _ _
        case c2h => simp [Value.oneCell']
        case c3h => unfold maxLen; omega
        case c4h => omega
        case c5h => simp; omega
        intro v5 w5 hown5 hgr5 _
        have hp5 := HP.out.push (o := .cells #[.int .i64 (b2n false)] 3) (by rw [Hil.out]; exact hown5) (by rw [Hil.out]; exact hgr5)
        have HQ := Lib.hid (HG.out v5 w5 hp5)
        clear hp5 hown5 hgr5
        go_wp2
        go_roundw
        case rel => exact ⟨_, j + 1, rfl, by omega, by go_num, HQ.out⟩
        case measure => simp [intOf]; omega
    · obtain rfl : j = n := by omega
      obtain ⟨⟨k, t⟩, hs⟩ : ∃ s, plS id zss j = s := ⟨_, rfl⟩
      obtain ⟨ids, hi⟩ : ∃ ids, plT id zss j = ids := ⟨_, rfl⟩
      rw [hs, hi] at Hst
      dsimp only at Hst
      have Hs := Lib.hid hs
      have Hd := Lib.hid hi
      have hil : ids.length = j := by rw [← hi, plT_len]
      have Hil := Lib.hid hil
      clear hs hi hil
      obtain ⟨A', cap', rfl⟩ := owns_form Hst.out.own
      have HV := Lib.hid (iv_owns Hst.out.own)
      rw [Hil.out]
      obtain ⟨c0, c1, c2, c3, c4, c5⟩ := Hst.out.box.kc
      obtain ⟨z0, z1, z2, z3, z4, z5, zf⟩ := Hst.out.res.cells
      have zn : ¬ g = w.heap.size := by omega
      go_wp2
      refine bodyPost_ret (v := .tuple #[.agg #[.int .i64 (k 0), .int .i64 (k 1), .int .i64 (k 2), .int .i64 (k 3), .int .i64 (k 4), .bool t], .slice A' j cap']) (by simp [results, go_sem, z0, z1, z2, z3, z4, z5]) rfl (plEnd_yes Hg.out (by rw [Hn.out]; exact Hs.out) (by rw [Hn.out]; exact Hd.out) Hil.out ?iv ?bel)
      case bel =>
        refine Hst.out.old.trans ?_
        iterate 6 refine Below.setCell ?_ (by show w.heap.size ≤ w.heap.size; exact Nat.le_refl _) _
        exact Below.refl _ _
      case iv =>
        refine (HV.out.of_block fun g' h1 _ => ?_).wide (by omega) (by simp [World.setCell])
        iterate 6 refine (Below.heap_setCell _ _ _ _ (by show g' ≠ w.heap.size; omega)).trans ?_
        rfl
end Go.Proofs.YtbmfleakldhabaaDoor.Kn
