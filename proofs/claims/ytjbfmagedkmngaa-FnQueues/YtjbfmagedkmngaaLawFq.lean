/- The law on queues walked. -/
import Derived.Test.YtjbfmagedkmngaaQx3
import Derived.Test.YtjbfmagedkmngaaPsh2
import Derived.Test.YtjbfmagedkmngaaAhd1
import Derived.Test.YtjbfmagedkmngaaMov1
import Derived.Deep.DeepCutAuto
import Derived.Deep.RegionHeld3
namespace Go.Proofs.Ytjbfmagedkmngaa.Que
open Go.RowKit Go.Deep Base Rng

theorem tmod4 {x : Int} (h0 : 0 ≤ x) : x.tmod 4 = 0 ∨ x.tmod 4 = 1 ∨ x.tmod 4 = 2 ∨ x.tmod 4 = 3 := by
  rw [Int.tmod_eq_emod_of_nonneg h0]; omega
theorem tmod97 {x : Int} (h0 : 0 ≤ x) : 0 ≤ x.tmod 97 ∧ x.tmod 97 ≤ 96 := by
  rw [Int.tmod_eq_emod_of_nonneg h0]; omega

/-- Between two rounds, whatever the queue. -/
def Rnd (w wr : World) (qb b off n cap : Nat) (L : List Int) : Prop := ∃ g ss f l r c A cq, QSt w wr qb b off n cap L g ss f l r c A cq


/-- The box of the queue and one number of the list. -/
def Sq (qb b o : Nat) (v0 v1 v2 v3 v4 : Value) (z : Int) (V : World) : Prop := Blk5 V qb v0 v1 v2 v3 v4 ∧ V.cell? ⟨b, o, none⟩ = some (.int .i64 z)
theorem Sq.below {qb b o : Nat} {v0 v1 v2 v3 v4 : Value} {z : Int} {V W : World} (h : Sq qb b o v0 v1 v2 v3 v4 z V) (hb : Below V.heap.size V W) : Sq qb b o v0 v1 v2 v3 v4 z W :=
  ⟨h.1.of_block (hb.block _ h.1.lt), (hb.cell (World.block_lt_of_cell? _ _ h.2)).trans h.2⟩

theorem nodup_ne {L : List Int} (h : L.Nodup) {i j : Nat} (hi : i < j) (hj : j < L.length) : L.getD i 0 ≠ L.getD j 0 := by
  rw [List.getD_eq_getElem?_getD, List.getD_eq_getElem?_getD, List.getElem?_eq_getElem (by omega), List.getElem?_eq_getElem hj]
  simp only [Option.getD_some]
  intro e
  have := (List.getElem_inj h).1 e
  omega

theorem listA_ql {ss : List Sl} {f l r c : Int} {L : List Int} (h : QL ss f l r c L) : listA ss f l r c = L := by
  obtain ⟨us, fs, v, e⟩ := h
  rw [listA_val v]
  exact e

theorem QL.move {ss : List Sl} {f l r c : Int} {a : Int} {t : List Int} (h : QL ss f l r c (a :: t)) : ∃ ss' f' l' r' c', QL ss' f' l' r' c' (t ++ [a]) ∧ ∀ w e w', MoveEnd w 60 ss f l r c a e w' → NewQ2 w 60 ss' f' l' r' c' (.bool true) e w' := by
  have hnd := h.nodup
  have hfew := h.few
  have hid := h.ids a (by simp)
  obtain ⟨x, hp, _, hi, hq⟩ := h.take (k := 0) (by simp)
  simp only [List.getD_cons_zero, List.eraseIdx_cons_zero] at hp hi hq
  rcases hq.push (id := a) hid.1 hid.2 with ⟨_, _, _, _, hq2⟩ | ⟨_, hc⟩
  · refine ⟨_, _, _, _, _, hq2, fun w e w' he => ?_⟩
    unfold MoveEnd at he
    rw [if_neg (by rw [hp]; omega)] at he
    obtain ⟨x', pv, nx, h1, h2, h3⟩ := he
    obtain rfl : x' = x := by rw [hp] at h1; exact (Int.ofNat.inj h1).symm
    simp only [h2]
    exact h3
  · exact absurd ⟨(List.nodup_cons.1 hnd).1, by simp at hfew; omega⟩ hc

/-- What is known of the moved queue behind region 48. -/
def Mvd (Wa wx : World) (x : Nat) (Am : Option Addr) (cm : Nat) (ss : List Sl) (f l r c : Int) : Prop :=
  Blk5 wx x (.slice Am 60 cm) (.int .i64 f) (.int .i64 l) (.int .i64 r) (.int .i64 c) ∧ (∃ lo hi, SlV wx lo hi Am ss ∧ hi ≤ wx.heap.size ∧ Wa.heap.size ≤ lo ∧ Wa.heap.size ≤ x) ∧ Below Wa.heap.size Wa wx

/-- An append in a drawn region, under a guard that says yes. -/
theorem step_append_g {ops : Array Oper} {o : Oper} {a : Act} {w : World} {K : Act → World → Prop} {Q : Exit → Act → World → Prop} {E : Prop} (hw : Region.wanted o (yielded ops a.tmps) = true) (s x : Operand) (t : TypeId)
    (ho : o.op = .call { callee := .builtin .append, args := #[s, x], argTypes := #[t, t] })
    (base : Nat) (e : TypeId) (i : TypeInfo) (z : Value) (size bytes : Nat) (ht : Try.prog.underlying t = some (.slice e)) (hi : Try.prog.info? e = some i) (hz : i.zero = some z)
    (hsize : i.size = size) (hby : i.bytes = bytes) (hzs : z.cells.size = size) (hsz : 0 < size)
    (v : Value) (n : Nat) (xs : List Value) (hs : a.eval s = v) (hown : w.ownsRow base e size v n xs)
    (ad : Addr) (m c : Nat) (news : List Value) (hx : a.eval x = .slice (some ad) m c) (hl : news.length = m * size) (hnews : ∀ j u, news[j]? = some u → w.cell? (ad.add j) = some u) (h1 : ∀ u ∈ news, u.oneCell' = true)
    (h63 : n + m ≤ maxLen) (hbytes : (n + m) * bytes ≤ 140737488355328) (hbase : base ≤ w.heap.size)
    (h : ∀ v' w', w'.ownsRow base e size v' (n + m) (xs ++ news) → w.grownBy w' v.ownBlock → (v' = .slice none 0 0 ↔ v = .slice none 0 0 ∧ m = 0) → (v'.ownBlock = v.ownBlock ∨ v'.ownBlock = some w.heap.size) → K (a.put o.dst v') w') :
    if Region.wanted o (yielded ops a.tmps) = true then Oper.wp Try.prog o a w K Q else E := by
  rw [if_pos hw]
  obtain ⟨v', w', hr, h2, h3, h4, h5⟩ := run_append_own_at (P := Try.prog) w base t o.type e i z size bytes ht hi hz hsize hby hzs hsz v n xs hown ad m c news hl hnews h1 h63 hbytes hbase
  unfold Oper.wp execOp
  simp only [ho, resolve, invoke, builtin, Sem.run_bind, Sem.run_pure, Result.andThen_ok, List.map_toArray, List.map_cons, List.map_nil, hs, hx, hr]
  exact h v' w' h2 h3 h4 h5

/-- The list of the moved queue, made by its call. -/
def FCl (V : World) (B lo hi : Nat) (A : Option Addr) (l : List Int) : Prop := IV V lo hi A l ∧ B ≤ lo ∧ hi ≤ V.heap.size
/-- A row of the law's own, in block g. -/
def FRow (V : World) (B g n c : Nat) (zs : List Int) : Prop := V.ownsRow B 3 1 (.slice (some ⟨g, 0, none⟩) n c) n (zs.map (Value.int .i64))
/-- The first number, in a block of its own. -/
def FBl (V : World) (g : Nat) (a : Int) : Prop := V.heap[g]? = some (.cells #[.int .i64 a] 3 (0, 0))

theorem FCl.below {V W : World} {B lo hi : Nat} {A : Option Addr} {l : List Int} (h : FCl V B lo hi A l) (hb : Below V.heap.size V W) : FCl W B lo hi A l := ⟨h.1.below hb h.2.2, h.2.1, Nat.le_trans h.2.2 hb.size⟩
theorem FRow.below {V W : World} {B g n c : Nat} {zs : List Int} (h : FRow V B g n c zs) (hb : Below V.heap.size V W) : FRow W B g n c zs := h.kept (row := none) ⟨hb.os, hb.tape, hb.output, hb.size, fun i hi _ => hb.block i hi⟩ (.inr (by simp [Value.ownBlock]))
theorem FRow.lt {V : World} {B g n c : Nat} {zs : List Int} (h : FRow V B g n c zs) : B ≤ g ∧ g < V.heap.size := World.ownsRow.lt h g rfl
theorem FBl.lt {V : World} {g : Nat} {a : Int} (h : FBl V g a) : g < V.heap.size := (Array.getElem?_eq_some_iff.1 h).1
theorem FBl.below {V W : World} {g : Nat} {a : Int} (h : FBl V g a) (hb : Below V.heap.size V W) : FBl W g a := (hb.block g h.lt).trans h
theorem FCl.grown {V W : World} {B lo hi g : Nat} {A : Option Addr} {l : List Int} (h : FCl V B lo hi A l) (hg : V.grownBy W (some g)) (ha : g < lo ∨ hi ≤ g) : FCl W B lo hi A l :=
  ⟨h.1.of_block fun k k1 k2 => hg.block k (by have := h.2.2; omega) (fun e => by injection e with e; omega), h.2.1, Nat.le_trans h.2.2 hg.size⟩
theorem FBl.grown {V W : World} {g g' : Nat} {a : Int} (h : FBl V g a) (hg : V.grownBy W (some g')) (ha : g ≠ g') : FBl W g a := (hg.block g h.lt (fun e => by injection e with e; exact ha e)).trans h

theorem own_below {V W : World} {g B : Nat} (h : V.grownBy W (some g)) (hB : B ≤ g) (hs : B ≤ V.heap.size) : Below B V W :=
  ⟨h.os, h.tape, h.output, h.size, fun i hi => h.block i (by omega) (fun e => by injection e with e; omega)⟩
theorem map_ones (zs : List Int) : ∀ u ∈ zs.map (Value.int .i64), u.oneCell' = true := by
  intro u hu
  rw [List.mem_map] at hu
  obtain ⟨z, _, rfl⟩ := hu
  rfl
theorem b1_new (V : World) {B : Nat} (hB : B ≤ V.heap.size) : ∃ V' g1, V.alloc (.cells #[] 3) = V' ∧ V.heap.size = g1 ∧ FRow V' B g1 0 0 [] ∧ Below V.heap.size V V' := by
  refine ⟨_, _, rfl, rfl, ?_, bel_alloc _ _⟩
  have h := World.ownsRow_lit (base := B) (e := 3) (size := 1) V #[] 0 hB (by simp) (by simp)
  simpa [FRow] using h
theorem b2_new (V : World) (a : Int) : ∃ V' g3, V.alloc (.cells #[.int .i64 a] 3) = V' ∧ V.heap.size = g3 ∧ FBl V' g3 a ∧ Below V.heap.size V V' :=
  ⟨_, _, rfl, rfl, heap_alloc_new V _, bel_alloc _ _⟩
theorem fb_cell {V : World} {g : Nat} {a : Int} (h : FBl V g a) : ∀ j u, [Value.int .i64 a][j]? = some u → V.cell? ((⟨g, 0, none⟩ : Addr).add j) = some u := by
  intro j u hj
  have ea : (⟨g, 0, none⟩ : Addr).add j = ⟨g, j, none⟩ := by
    unfold Addr.add; split
    · next h => subst h; rfl
    · simp
  rw [ea, cell_of_row _ _ j #[.int .i64 a] _ (0, 0) h]
  simpa using hj
theorem a1_new {W : World} {B nt H g1 n0 c0 : Nat} {v' : Value} {t : List Int} (hown : W.ownsRow B 3 1 v' (0 + nt) ([] ++ t.map (Value.int .i64))) (hiff : v' = .slice none 0 0 ↔ Value.slice (some ⟨g1, 0, none⟩) n0 c0 = .slice none 0 0 ∧ nt = 0) (hat : v'.ownBlock = (Value.slice (some ⟨g1, 0, none⟩) n0 c0).ownBlock ∨ v'.ownBlock = some H) :
    ∃ g2 c2, v' = .slice (some ⟨g2, 0, none⟩) nt c2 ∧ FRow W B g2 nt c2 t ∧ (g2 = g1 ∨ g2 = H) := by
  rw [Nat.zero_add, List.nil_append] at hown
  rcases hown.2 with ⟨h1, _⟩ | ⟨g, c, cu, rfl, _⟩
  · exact absurd (hiff.1 h1).1 (by simp)
  · refine ⟨g, c, rfl, hown, ?_⟩
    simpa [Value.ownBlock] using hat
theorem a2_new {W : World} {B nt : Nat} {v' : Value} {t : List Int} {a : Int} (ht : t.length = nt) (hown : W.ownsRow B 3 1 v' (nt + 1) (t.map (Value.int .i64) ++ [.int .i64 a])) : ∃ g4 c4, v' = .slice (some ⟨g4, 0, none⟩) (nt + 1) c4 ∧ Ints W (some ⟨g4, 0, none⟩) (t ++ [a]) := by
  rcases hown.2 with ⟨h1, h2⟩ | ⟨g, c, cu, rfl, _⟩
  · omega
  · refine ⟨g, c, rfl, fun _ => ⟨g, 0, rfl, fun i hi => ?_⟩⟩
    rw [List.length_append, List.length_singleton] at hi
    rw [Nat.zero_add, hown.cellAt i (by omega), ← List.map_singleton, ← List.map_append, List.getElem?_map, List.getElem?_eq_getElem (by simp; omega), List.getD_eq_getElem?_getD, List.getElem?_eq_getElem (by simp; omega)]
    rfl

theorem erase_ne {L : List Int} {j k : Nat} (hj : j < L.length) (h : j ≠ k) : (L.take (j + 1)).eraseIdx k = (L.take j).eraseIdx k ++ [L.getD j 0] := by
  rw [List.take_succ_eq_append_getElem hj, List.getD_eq_getElem?_getD, List.getElem?_eq_getElem hj, Option.getD_some]
  by_cases hk : k < j
  · rw [List.eraseIdx_append_of_lt_length (by simp; omega)]
  · rw [List.eraseIdx_of_length_le (by simp; omega), List.eraseIdx_of_length_le (by simp; omega)]
theorem erase_eq {L : List Int} {k : Nat} (hk : k < L.length) : (L.take (k + 1)).eraseIdx k = (L.take k).eraseIdx k := by
  rw [List.take_succ_eq_append_getElem hk, List.eraseIdx_append_of_length_le (by simp; omega), List.eraseIdx_of_length_le (l := L.take k) (by simp; omega)]
  have e : k - (L.take k).length = 0 := by simp; omega
  rw [e]
  simp

/-- The row that is built anew, since W. -/
structure RL (W wr : World) (v : Value) (ids : List Int) : Prop where
  own : wr.ownsRow W.heap.size 3 1 v ids.length (ids.map (Value.int .i64))
  old : Below W.heap.size W wr
  some : ∃ g c, v = .slice (Option.some ⟨g, 0, none⟩) ids.length c
theorem RL.empty (W : World) : RL W (W.alloc (.cells #[] 3)) (.slice (Option.some ⟨W.heap.size, 0, none⟩) 0 0) [] := by
  refine ⟨?_, bel_alloc _ _, _, _, rfl⟩
  have h := World.ownsRow_lit (base := W.heap.size) (e := 3) (size := 1) W #[] 0 (Nat.le_refl _) (by simp) (by simp)
  simpa using h
theorem RL.step {W wr w1 : World} {v v' : Value} {ids : List Int} {x : Int} {o : Obj} (h : RL W wr v ids) (hown : w1.ownsRow W.heap.size 3 1 v' (ids.length + 1) (ids.map (Value.int .i64) ++ [.int .i64 x])) (hg : (wr.alloc o).grownBy w1 v.ownBlock) : RL W w1 v' (ids ++ [x]) := by
  have hsz := h.old.size
  refine ⟨by simpa using hown, (h.old.alloc hsz o).grown hg (by simp; omega) (fun j e => (h.own.lt j e).1), ?_⟩
  rcases hown.2 with ⟨_, h2⟩ | ⟨g, c, _, rfl, _⟩
  · omega
  · exact ⟨g, c, by simp⟩
theorem RL.li {W wr : World} {g c lo : Nat} {ids : List Int} {n : Nat} (h : RL W wr (.slice (Option.some ⟨g, 0, none⟩) n c) ids) (hn : ids.length = n) (hlo : lo ≤ W.heap.size) : Li wr lo g 0 n c ids ∧ W.heap.size ≤ g := by
  subst hn
  have hl := h.own.lt g rfl
  rcases h.own.2 with ⟨h1, _⟩ | ⟨g', c', cu, hv, hb, hg, hle, _, hsz, htk⟩
  · cases h1
  · injection hv with e1 _ e2
    injection e1 with e1
    injection e1 with e1
    subst e1 e2
    refine ⟨⟨rfl, hle, Nat.le_trans hlo hb, hl.2, fun i hi => ?_, fun i hi => ⟨?_, ?_⟩⟩, hb⟩
    · rw [Nat.zero_add, h.own.cellAt i (by omega), List.getElem?_map, List.getElem?_eq_getElem hi, List.getD_eq_getElem?_getD, List.getElem?_eq_getElem hi]
      rfl
    · rw [Nat.zero_add, cell_of_row _ _ i _ _ (0, 0) hg, Array.getElem?_eq_getElem (by omega)]
      rfl
    · exact frozen_of_row _ _ _ _ _ hg

set_option maxRecDepth 100000 in
set_option maxHeartbeats 40000000 in
theorem lawQueues (A : Option Addr) (n cap : Nat) (zs : List Int) (w : World) (hn : zs.length = n) (hm : n ≤ maxLen) (hb : Bts w A zs) :
    Calls Try.prog 3 #[.slice A n cap] w fun e w' => e = .returned (.bool true) ∧ Below w.heap.size w w' := by
  have HBy := Lib.hid hb
  have HN := Lib.hid hn
  clear hb hn
  by_cases hbig : 1048576 < n
  · have hd : decide (1048576 < n) = true := decide_eq_true hbig
    go_enter Try.func3, Try.ntmps3
    go_wp2_with fail
    refine (big_any A n cap _ hm).mono ?_
    rintro e w' ⟨rfl, rfl⟩
    rw [hd]
    go_wp2
    go_ret
    exact ⟨rfl, Below.refl _ _⟩
  have hd : decide (1048576 < n) = false := decide_eq_false hbig
  go_enter Try.func3, Try.ntmps3
  go_wp2_with fail
  refine (big_any A n cap _ hm).mono ?_
  rintro e w' ⟨rfl, rfl⟩
  rw [hd]
  clear hd
  go_wp2_with fail
  refine (implNew_any w).mono ?_
  rintro e w1 ⟨A1, c1, rfl, v1, b1⟩
  have z1 : w.heap.size ≤ w1.heap.size := b1.size
  obtain ⟨ww, hww⟩ : ∃ ww, (w1.alloc (.cells #[.slice A1 60 c1, .int .i64 (-1), .int .i64 (-1), .int .i64 0, .int .i64 0] 26)).alloc (.cells #[] 3) = ww := ⟨_, rfl⟩
  have S0 : Hid (Rnd w ww w1.heap.size (w1.heap.size + 1) 0 0 0 []) := by
    obtain ⟨g, k1, k2, k3⟩ := slv_at v1 (by rw [newS_len]; omega)
    have ba := bel_alloc w1 (.cells #[.slice A1 60 c1, .int .i64 (-1), .int .i64 (-1), .int .i64 0, .int .i64 0] 26)
    have bb := bel_alloc (w1.alloc (.cells #[.slice A1 60 c1, .int .i64 (-1), .int .i64 (-1), .int .i64 0, .int .i64 0] 26)) (.cells #[] 3)
    refine ⟨g, newS, -1, -1, 0, 0, A1, c1, ⟨?_, ?_, by omega, ?_⟩, ql_new, ?_, ?_, z1, by omega, by omega⟩
    · rw [← hww]; exact (bb.block _ (by simp)).trans (heap_alloc_new w1 _)
    · rw [← hww]; exact (k3.below ba (by omega)).below bb (by simp; omega)
    · rw [← hww]; simp; omega
    · rw [← hww]
      have := Li.empty (w1.alloc (.cells #[.slice A1 60 c1, .int .i64 (-1), .int .i64 (-1), .int .i64 0, .int .i64 0] 26)) 3
      rw [World.size_alloc] at this
      exact ⟨this.len, this.le, by omega, this.lt, this.cells, this.room⟩
    · rw [← hww]; exact bel_trans (bel_trans b1 ba) bb
  clear v1 b1
  go_wp2_with fail
  clear hww
  generalize w1.heap.size = qb at S0 z1 ⊢
  go_loopw [4, 5] (fun x i wr => ∃ (k b off n' cap' : Nat) (L : List Int), x = .slice (some ⟨b, off, none⟩) n' cap' ∧ i = .int .i64 k ∧ k ≤ 120 ∧ Rnd w wr qb b off n' cap' L) (fun _ i _ => 120 - (intOf i).toNat)
  case atStart => exact ⟨0, _, _, _, _, [], rfl, rfl, by omega, S0.out⟩
  case round =>
    obtain ⟨k, b, off, n', cap', L, rfl, rfl, hk, g, ss, f, l, r, c, A', cq, st⟩ := hrel
    have St := Lib.hid st
    clear st S0
    have hfew : L.length ≤ 60 := St.out.ql.few.1
    have hn60 : n' ≤ 60 := by have := St.out.li.len; omega
    have Hcl := Lib.hid St.out.ql.few.2
    have Hnl := Lib.hid St.out.li.len
    have hcl := St.out.li.le
    clear hfew
    by_cases hrun : k < n ∧ k < 120
    · obtain ⟨hk1, hk2⟩ := hrun
      have hk1' : (k : Int) < (n : Int) := by omega
      have hk2' : (k : Int) < 120 := by omega
      obtain ⟨y0, y1, y2, y3, y4, yf⟩ := St.out.q.1.cells
      go_wp2_with fail
      refine (at_any A n cap zs k (by omega) wr HN.out (by omega) (HBy.out.below St.out.old)).mono ?_
      rintro e w' ⟨⟨x, rfl, x0, x1⟩, rfl⟩
      have hx4 := tmod4 x0
      have hx97 := tmod97 x0
      obtain ⟨m, hm4⟩ : ∃ m, x.tmod 4 = m := ⟨_, rfl⟩
      rw [hm4] at hx4
      by_cases hpu : m = 0 ∨ m = 1
      · obtain ⟨d, hd⟩ : ∃ d, x.tmod 97 = d := ⟨_, rfl⟩
        rw [hd] at hx97
        have hw1 : IntKind.i64.wrap (1 + d) = 1 + d := IntWalk.i64_in _ (by omega)
        have hcon := implPush_any A' 60 cq g (g + 1) ss f l r c (1 + d) wr St.out.ql.len (by omega) St.out.q.2.1 (by have := St.out.q.2.2.2; omega)
        have HQP := Lib.hid (St.out.ql.push (id := 1 + d) (by omega) (by omega))
        have HC := Lib.hid hcon
        clear hcon hx4
        rcases HQP.out with ⟨hc1, hc2, hc3, hc4, hc5⟩ | ⟨hc1, hc2⟩
        · have Hq := Lib.hid hc5
          have hend := fun e w' (he : PushEnd wr 60 ss f l r c (1 + d) e w') => (by unfold PushEnd at he; rw [if_pos hc1] at he; exact he : NewQ2 wr 60 (pushS ss l r (1 + d)) (if l = -1 then r else f) r (sl ss r.toNat).next (c + 1) (.int .i64 r) e w')
          have HC2 := Lib.hid (HC.out.mono hend)
          clear hend hc1 hc5 HC HQP
          rcases hpu with rfl | rfl
          · go_wp2_with fail
            as_aux_lemma =>
              refine HC2.out.mono ?_
              rintro e w3 ⟨A3, c3, rfl, v3, b3⟩
              have z3 : wr.heap.size ≤ w3.heap.size := b3.size
              clear y0 y1 y2 y3 y4 yf HC2
              obtain ⟨f9, hf9⟩ : ∃ f9, (if l = -1 then r else f) = f9 := ⟨_, rfl⟩
              obtain ⟨r9, hr9⟩ : ∃ r9, (sl ss r.toNat).next = r9 := ⟨_, rfl⟩
              obtain ⟨c9, hc9⟩ : ∃ c9, c + 1 = c9 := ⟨_, rfl⟩
              obtain ⟨l9, hl9⟩ : ∃ l9, r = l9 := ⟨_, rfl⟩
              rw [hf9, hr9, hc9] at Hq ⊢
              have Hl9 := Lib.hid hl9
              clear hf9 hr9 hc9 hl9
              have hr0 : ¬ r < 0 := by omega
              go_wp2_with fail
              obtain ⟨W4, hW4⟩ : ∃ W4, w3.alloc (.cells #[.slice A3 60 c3, .int .i64 f9, .int .i64 r, .int .i64 r9, .int .i64 c9] 26) = W4 := ⟨_, rfl⟩
              have b4 : Below w3.heap.size w3 W4 := by rw [← hW4]; exact bel_alloc _ _
              have PN : Hid (Blk5 W4 w3.heap.size (.slice A3 60 c3) (.int .i64 f9) (.int .i64 r) (.int .i64 r9) (.int .i64 c9)) := by rw [← hW4]; exact heap_alloc_new w3 _
              have z4 : w3.heap.size < W4.heap.size := PN.out.lt
              have S4 := Lib.hid (St.out.keep (bel_trans b3 b4))
              have V4 := Lib.hid (v3.below b4 (Nat.le_refl _))
              rw [hW4]
              clear hW4
              have bA := Lib.hid (bel_trans b3 b4)
              clear b3 b4 v3
              refine (within_any (some ⟨b, off, none⟩) n' cap' L (1 + d) W4 Hnl.out (by omega) S4.out.li.ints).mono ?_
              rintro e w5 ⟨rfl, b5⟩
              have z5 : W4.heap.size ≤ w5.heap.size := b5.size
              have S5 := Lib.hid (S4.out.keep b5)
              replace V4 := Lib.hid (V4.out.below b5 (by omega))
              replace PN := Lib.hid (PN.out.of_block (b5.block _ z4))
              replace bA := Lib.hid (bel_trans bA.out b5)
              clear b5 S4
              have hnm : decide ((1 + d) ∈ L) = false := decide_eq_false hc2
              rw [hnm]
              have hc3' : (n' : Int) < 60 := by have := Hnl.out; omega
              have hc3'' : n' < 60 := by omega
              obtain ⟨i0, hi0, hz0, hz1, hz2⟩ := info_parts infoInt
              have Hi0 := Lib.hid hi0
              have Hz0 := Lib.hid hz0
              have Hz1 := Lib.hid hz1
              have Hz2 := Lib.hid hz2
              clear hi0 hz0 hz1 hz2 hnm hc2
              have hbl : b < wr.heap.size := St.out.li.lt
              have hql : qb < wr.heap.size := St.out.q.1.lt
              have hqb : qb ≠ b := St.out.qne
              have Ll := Lib.hid (S5.out.li.below (bel_alloc w5 (.cells #[.int .i64 (1 + d)] 3)) S5.out.li.lt)
              have bL := Lib.hid (bel_trans bA.out (bel_alloc w5 (.cells #[.int .i64 (1 + d)] 3)))
              have VL := Lib.hid (V4.out.below (bel_alloc w5 (.cells #[.int .i64 (1 + d)] 3)) (by omega))
              have PL := Lib.hid (PN.out.alloc (.cells #[.int .i64 (1 + d)] 3))
              go_wp2_with (at_builtin; refine wpList_append_arg _ rfl _ _ 28 rfl 3 i0 (.int .i64 0) 1 8 Try.underlying28 Hi0.out Hz0.out Hz1.out Hz2.out rfl (by decide) b off n' cap' (L.map (Value.int .i64)) rfl ?hlo ?hol ⟨w5.heap.size, 0, none⟩ 1 1 [.int .i64 (1 + d)] rfl rfl ?hnw ?hone ?hsp ?hb1 ?hb2 ?hroom ?hgrow)
              case hlo => rw [List.length_map, Hnl.out]; omega
              case hol =>
                intro j u9 hj
                have hjl : j < L.length := by have := (List.getElem?_eq_some_iff.1 hj).1; simpa using this
                rw [Ll.out.cells j (by have := Hnl.out; omega)]
                simp [hjl] at hj
                rw [← hj]
                simp [List.getD_eq_getElem?_getD, hjl]
              case hnw => exact new_one_at rfl _ _
              case hone => simp [Value.oneCell']
              case hsp =>
                intro hr9 j hj
                simp at hj
                subst hj
                have := Ll.out.room n' (by omega)
                simpa using this
              case hb1 => unfold maxLen; omega
              case hb2 => omega
              case hroom =>
                intro hrm
                obtain ⟨W6, hW6⟩ : ∃ W6, (w5.alloc (.cells #[.int .i64 (1 + d)] 3)).setCells b (off + n') [.int .i64 (1 + d)] = W6 := ⟨_, rfl⟩
                have e6 : (w5.alloc (.cells #[.int .i64 (1 + d)] 3)).setCell ⟨b, off + n', none⟩ (.int .i64 (1 + d)) = W6 := by rw [← hW6]; rfl
                rw [hW6]
                clear hW6
                have L6 : Hid (Li W6 w.heap.size b off (n' + 1) cap' (L ++ [1 + d])) := by rw [← e6]; exact Ll.out.set hrm (1 + d)
                have hbk : ∀ k, k ≠ b → W6.heap[k]? = (w5.alloc (.cells #[.int .i64 (1 + d)] 3)).heap[k]? := fun k hk => by rw [← e6]; exact heap_setCell_other _ _ _ _ hk
                have EQ : Hid (W6.heap[qb]? = wr.heap[qb]?) := (hbk qb hqb).trans (bL.out.block qb hql)
                have BO : Hid (Below w.heap.size w W6) := by rw [← e6]; exact (St.out.old.trans (bL.out.mono St.out.old.size)).setCell St.out.li.low _
                have z6 : W6.heap.size = w5.heap.size + 1 := by rw [← e6]; simp [World.setCell]
                have VS : Hid (SlV W6 wr.heap.size W6.heap.size A3 (pushS ss l r (1 + d))) := (VL.out.of_block (fun k k1 k2 => hbk k (by omega))).wide (Nat.le_refl _) (by omega)
                have HNB : Hid (∀ g', A3 = some ⟨g', 0, none⟩ → g' ≠ b) := fun g' e9 => by
                  obtain ⟨gx, ex, k1, _, _⟩ := VS.out (by rw [Hq.out.len]; omega)
                  rw [e9] at ex
                  injection ex with ex
                  injection ex with ex
                  omega
                have QB := Lib.hid hqb
                have PN6 := Lib.hid (PL.out.of_block (hbk w3.heap.size (by omega)))
                clear hbk e6
                have YQ := Lib.hid (St.out.q.1.of_block EQ.out)
                obtain ⟨g9, s9⟩ := St.out.put (w2 := W6) EQ.out BO.out VS.out (Nat.le_refl _) HNB.out Hq.out L6.out QB.out c3
                have S9 : Hid (Rnd w (((((W6.setCell ⟨qb, 0, none⟩ (.slice A3 60 c3)).setCell ⟨qb, 1, none⟩ (.int .i64 f9)).setCell ⟨qb, 2, none⟩ (.int .i64 r)).setCell ⟨qb, 3, none⟩ (.int .i64 r9)).setCell ⟨qb, 4, none⟩ (.int .i64 c9)) qb b off (n' + 1) cap' (L ++ [1 + d])) := ⟨g9, _, _, _, _, _, _, _, s9⟩
                clear s9 EQ BO VS HNB Ll bL VL PL S5 V4 PN bA
                have PN := PN6
                clear PN6
                have nq : w3.heap.size ≠ qb := by omega
                obtain ⟨p0, p1, p2, p3, p4, pf⟩ := PN.out.cells
                obtain ⟨y0, y1, y2, y3, y4, yf⟩ := YQ.out.cells
                clear pf
                obtain ⟨WZ, hWZ⟩ : ∃ WZ, ((((W6.setCell ⟨qb, 0, none⟩ (.slice A3 60 c3)).setCell ⟨qb, 1, none⟩ (.int .i64 f9)).setCell ⟨qb, 2, none⟩ (.int .i64 r)).setCell ⟨qb, 3, none⟩ (.int .i64 r9)).setCell ⟨qb, 4, none⟩ (.int .i64 c9) = WZ := ⟨_, rfl⟩
                rw [hWZ] at S9
                go_wp2
                go_roundw
                case rel => exact ⟨k + 1, _, _, _, _, _, rfl, by go_num, by omega, S9.out⟩
                case measure => simp [intOf]; omega
              case hgrow =>
                intro hcp v' W6 hown hgr
                obtain ⟨gn, cn, rfl, hgn, l6⟩ := Li.grow (lo := w.heap.size) (x := 1 + d) Hnl.out hown (by have := St.out.old.size; omega)
                have hbk : ∀ k, k < w5.heap.size + 1 → W6.heap[k]? = (w5.alloc (.cells #[.int .i64 (1 + d)] 3)).heap[k]? := fun k hk => hgr.block k (by simp; omega) (by simp)
                have L6 := Lib.hid l6
                have z6 : w5.heap.size + 1 ≤ W6.heap.size := by have := hgr.size; simpa using this
                have EQ : Hid (W6.heap[qb]? = wr.heap[qb]?) := (hbk qb (by omega)).trans (bL.out.block qb hql)
                have BO : Hid (Below w.heap.size w W6) := (St.out.old.trans (bL.out.mono St.out.old.size)).trans ⟨hgr.os, hgr.tape, hgr.output, hgr.size, fun k hk => hbk k (by have := St.out.old.size; omega)⟩
                have VS : Hid (SlV W6 wr.heap.size W6.heap.size A3 (pushS ss l r (1 + d))) := (VL.out.of_block (fun k k1 k2 => hbk k (by omega))).wide (Nat.le_refl _) (by omega)
                have V3 : Hid (SlV W6 wr.heap.size w3.heap.size A3 (pushS ss l r (1 + d))) := VL.out.of_block (fun k k1 k2 => hbk k (by omega))
                have HNB : Hid (∀ g', A3 = some ⟨g', 0, none⟩ → g' ≠ gn) := fun g' e9 => by
                  obtain ⟨gx, ex, _, k2, _⟩ := V3.out (by rw [Hq.out.len]; omega)
                  rw [e9] at ex
                  injection ex with ex
                  injection ex with ex
                  omega
                have QB : Hid (qb ≠ gn) := by show qb ≠ gn; omega
                have PN6 := Lib.hid (PL.out.of_block (hbk w3.heap.size (by omega)))
                clear hbk hown hgr l6 V3
                have YQ := Lib.hid (St.out.q.1.of_block EQ.out)
                obtain ⟨g9, s9⟩ := St.out.put (w2 := W6) EQ.out BO.out VS.out (Nat.le_refl _) HNB.out Hq.out L6.out QB.out c3
                have S9 : Hid (Rnd w (((((W6.setCell ⟨qb, 0, none⟩ (.slice A3 60 c3)).setCell ⟨qb, 1, none⟩ (.int .i64 f9)).setCell ⟨qb, 2, none⟩ (.int .i64 r)).setCell ⟨qb, 3, none⟩ (.int .i64 r9)).setCell ⟨qb, 4, none⟩ (.int .i64 c9)) qb gn 0 (n' + 1) cn (L ++ [1 + d])) := ⟨g9, _, _, _, _, _, _, _, s9⟩
                clear s9 EQ BO VS HNB Ll bL VL PL S5 V4 PN bA
                have PN := PN6
                clear PN6
                have nq : w3.heap.size ≠ qb := by omega
                obtain ⟨p0, p1, p2, p3, p4, pf⟩ := PN.out.cells
                obtain ⟨y0, y1, y2, y3, y4, yf⟩ := YQ.out.cells
                clear pf
                obtain ⟨WZ, hWZ⟩ : ∃ WZ, ((((W6.setCell ⟨qb, 0, none⟩ (.slice A3 60 c3)).setCell ⟨qb, 1, none⟩ (.int .i64 f9)).setCell ⟨qb, 2, none⟩ (.int .i64 r)).setCell ⟨qb, 3, none⟩ (.int .i64 r9)).setCell ⟨qb, 4, none⟩ (.int .i64 c9) = WZ := ⟨_, rfl⟩
                rw [hWZ] at S9
                go_wp2
                go_roundw
                case rel => exact ⟨k + 1, _, _, _, _, _, rfl, by go_num, by omega, S9.out⟩
                case measure => simp [intOf]; omega
                skip
          · go_wp2_with fail
            as_aux_lemma =>
              refine HC2.out.mono ?_
              rintro e w3 ⟨A3, c3, rfl, v3, b3⟩
              have z3 : wr.heap.size ≤ w3.heap.size := b3.size
              clear y0 y1 y2 y3 y4 yf HC2
              obtain ⟨f9, hf9⟩ : ∃ f9, (if l = -1 then r else f) = f9 := ⟨_, rfl⟩
              obtain ⟨r9, hr9⟩ : ∃ r9, (sl ss r.toNat).next = r9 := ⟨_, rfl⟩
              obtain ⟨c9, hc9⟩ : ∃ c9, c + 1 = c9 := ⟨_, rfl⟩
              obtain ⟨l9, hl9⟩ : ∃ l9, r = l9 := ⟨_, rfl⟩
              rw [hf9, hr9, hc9] at Hq ⊢
              have Hl9 := Lib.hid hl9
              clear hf9 hr9 hc9 hl9
              have hr0 : ¬ r < 0 := by omega
              go_wp2_with fail
              obtain ⟨W4, hW4⟩ : ∃ W4, w3.alloc (.cells #[.slice A3 60 c3, .int .i64 f9, .int .i64 r, .int .i64 r9, .int .i64 c9] 26) = W4 := ⟨_, rfl⟩
              have b4 : Below w3.heap.size w3 W4 := by rw [← hW4]; exact bel_alloc _ _
              have PN : Hid (Blk5 W4 w3.heap.size (.slice A3 60 c3) (.int .i64 f9) (.int .i64 r) (.int .i64 r9) (.int .i64 c9)) := by rw [← hW4]; exact heap_alloc_new w3 _
              have z4 : w3.heap.size < W4.heap.size := PN.out.lt
              have S4 := Lib.hid (St.out.keep (bel_trans b3 b4))
              have V4 := Lib.hid (v3.below b4 (Nat.le_refl _))
              rw [hW4]
              clear hW4
              have bA := Lib.hid (bel_trans b3 b4)
              clear b3 b4 v3
              refine (within_any (some ⟨b, off, none⟩) n' cap' L (1 + d) W4 Hnl.out (by omega) S4.out.li.ints).mono ?_
              rintro e w5 ⟨rfl, b5⟩
              have z5 : W4.heap.size ≤ w5.heap.size := b5.size
              have S5 := Lib.hid (S4.out.keep b5)
              replace V4 := Lib.hid (V4.out.below b5 (by omega))
              replace PN := Lib.hid (PN.out.of_block (b5.block _ z4))
              replace bA := Lib.hid (bel_trans bA.out b5)
              clear b5 S4
              have hnm : decide ((1 + d) ∈ L) = false := decide_eq_false hc2
              rw [hnm]
              have hc3' : (n' : Int) < 60 := by have := Hnl.out; omega
              have hc3'' : n' < 60 := by omega
              obtain ⟨i0, hi0, hz0, hz1, hz2⟩ := info_parts infoInt
              have Hi0 := Lib.hid hi0
              have Hz0 := Lib.hid hz0
              have Hz1 := Lib.hid hz1
              have Hz2 := Lib.hid hz2
              clear hi0 hz0 hz1 hz2 hnm hc2
              have hbl : b < wr.heap.size := St.out.li.lt
              have hql : qb < wr.heap.size := St.out.q.1.lt
              have hqb : qb ≠ b := St.out.qne
              have Ll := Lib.hid (S5.out.li.below (bel_alloc w5 (.cells #[.int .i64 (1 + d)] 3)) S5.out.li.lt)
              have bL := Lib.hid (bel_trans bA.out (bel_alloc w5 (.cells #[.int .i64 (1 + d)] 3)))
              have VL := Lib.hid (V4.out.below (bel_alloc w5 (.cells #[.int .i64 (1 + d)] 3)) (by omega))
              have PL := Lib.hid (PN.out.alloc (.cells #[.int .i64 (1 + d)] 3))
              go_wp2_with (at_builtin; refine wpList_append_arg _ rfl _ _ 28 rfl 3 i0 (.int .i64 0) 1 8 Try.underlying28 Hi0.out Hz0.out Hz1.out Hz2.out rfl (by decide) b off n' cap' (L.map (Value.int .i64)) rfl ?hlo ?hol ⟨w5.heap.size, 0, none⟩ 1 1 [.int .i64 (1 + d)] rfl rfl ?hnw ?hone ?hsp ?hb1 ?hb2 ?hroom ?hgrow)
              case hlo => rw [List.length_map, Hnl.out]; omega
              case hol =>
                intro j u9 hj
                have hjl : j < L.length := by have := (List.getElem?_eq_some_iff.1 hj).1; simpa using this
                rw [Ll.out.cells j (by have := Hnl.out; omega)]
                simp [hjl] at hj
                rw [← hj]
                simp [List.getD_eq_getElem?_getD, hjl]
              case hnw => exact new_one_at rfl _ _
              case hone => simp [Value.oneCell']
              case hsp =>
                intro hr9 j hj
                simp at hj
                subst hj
                have := Ll.out.room n' (by omega)
                simpa using this
              case hb1 => unfold maxLen; omega
              case hb2 => omega
              case hroom =>
                intro hrm
                obtain ⟨W6, hW6⟩ : ∃ W6, (w5.alloc (.cells #[.int .i64 (1 + d)] 3)).setCells b (off + n') [.int .i64 (1 + d)] = W6 := ⟨_, rfl⟩
                have e6 : (w5.alloc (.cells #[.int .i64 (1 + d)] 3)).setCell ⟨b, off + n', none⟩ (.int .i64 (1 + d)) = W6 := by rw [← hW6]; rfl
                rw [hW6]
                clear hW6
                have L6 : Hid (Li W6 w.heap.size b off (n' + 1) cap' (L ++ [1 + d])) := by rw [← e6]; exact Ll.out.set hrm (1 + d)
                have hbk : ∀ k, k ≠ b → W6.heap[k]? = (w5.alloc (.cells #[.int .i64 (1 + d)] 3)).heap[k]? := fun k hk => by rw [← e6]; exact heap_setCell_other _ _ _ _ hk
                have EQ : Hid (W6.heap[qb]? = wr.heap[qb]?) := (hbk qb hqb).trans (bL.out.block qb hql)
                have BO : Hid (Below w.heap.size w W6) := by rw [← e6]; exact (St.out.old.trans (bL.out.mono St.out.old.size)).setCell St.out.li.low _
                have z6 : W6.heap.size = w5.heap.size + 1 := by rw [← e6]; simp [World.setCell]
                have VS : Hid (SlV W6 wr.heap.size W6.heap.size A3 (pushS ss l r (1 + d))) := (VL.out.of_block (fun k k1 k2 => hbk k (by omega))).wide (Nat.le_refl _) (by omega)
                have HNB : Hid (∀ g', A3 = some ⟨g', 0, none⟩ → g' ≠ b) := fun g' e9 => by
                  obtain ⟨gx, ex, k1, _, _⟩ := VS.out (by rw [Hq.out.len]; omega)
                  rw [e9] at ex
                  injection ex with ex
                  injection ex with ex
                  omega
                have QB := Lib.hid hqb
                have PN6 := Lib.hid (PL.out.of_block (hbk w3.heap.size (by omega)))
                clear hbk e6
                have YQ := Lib.hid (St.out.q.1.of_block EQ.out)
                obtain ⟨g9, s9⟩ := St.out.put (w2 := W6) EQ.out BO.out VS.out (Nat.le_refl _) HNB.out Hq.out L6.out QB.out c3
                have S9 : Hid (Rnd w (((((W6.setCell ⟨qb, 0, none⟩ (.slice A3 60 c3)).setCell ⟨qb, 1, none⟩ (.int .i64 f9)).setCell ⟨qb, 2, none⟩ (.int .i64 r)).setCell ⟨qb, 3, none⟩ (.int .i64 r9)).setCell ⟨qb, 4, none⟩ (.int .i64 c9)) qb b off (n' + 1) cap' (L ++ [1 + d])) := ⟨g9, _, _, _, _, _, _, _, s9⟩
                clear s9 EQ BO VS HNB Ll bL VL PL S5 V4 PN bA
                have PN := PN6
                clear PN6
                have nq : w3.heap.size ≠ qb := by omega
                obtain ⟨p0, p1, p2, p3, p4, pf⟩ := PN.out.cells
                obtain ⟨y0, y1, y2, y3, y4, yf⟩ := YQ.out.cells
                clear pf
                obtain ⟨WZ, hWZ⟩ : ∃ WZ, ((((W6.setCell ⟨qb, 0, none⟩ (.slice A3 60 c3)).setCell ⟨qb, 1, none⟩ (.int .i64 f9)).setCell ⟨qb, 2, none⟩ (.int .i64 r)).setCell ⟨qb, 3, none⟩ (.int .i64 r9)).setCell ⟨qb, 4, none⟩ (.int .i64 c9) = WZ := ⟨_, rfl⟩
                rw [hWZ] at S9
                go_wp2
                go_roundw
                case rel => exact ⟨k + 1, _, _, _, _, _, rfl, by go_num, by omega, S9.out⟩
                case measure => simp [intOf]; omega
              case hgrow =>
                intro hcp v' W6 hown hgr
                obtain ⟨gn, cn, rfl, hgn, l6⟩ := Li.grow (lo := w.heap.size) (x := 1 + d) Hnl.out hown (by have := St.out.old.size; omega)
                have hbk : ∀ k, k < w5.heap.size + 1 → W6.heap[k]? = (w5.alloc (.cells #[.int .i64 (1 + d)] 3)).heap[k]? := fun k hk => hgr.block k (by simp; omega) (by simp)
                have L6 := Lib.hid l6
                have z6 : w5.heap.size + 1 ≤ W6.heap.size := by have := hgr.size; simpa using this
                have EQ : Hid (W6.heap[qb]? = wr.heap[qb]?) := (hbk qb (by omega)).trans (bL.out.block qb hql)
                have BO : Hid (Below w.heap.size w W6) := (St.out.old.trans (bL.out.mono St.out.old.size)).trans ⟨hgr.os, hgr.tape, hgr.output, hgr.size, fun k hk => hbk k (by have := St.out.old.size; omega)⟩
                have VS : Hid (SlV W6 wr.heap.size W6.heap.size A3 (pushS ss l r (1 + d))) := (VL.out.of_block (fun k k1 k2 => hbk k (by omega))).wide (Nat.le_refl _) (by omega)
                have V3 : Hid (SlV W6 wr.heap.size w3.heap.size A3 (pushS ss l r (1 + d))) := VL.out.of_block (fun k k1 k2 => hbk k (by omega))
                have HNB : Hid (∀ g', A3 = some ⟨g', 0, none⟩ → g' ≠ gn) := fun g' e9 => by
                  obtain ⟨gx, ex, _, k2, _⟩ := V3.out (by rw [Hq.out.len]; omega)
                  rw [e9] at ex
                  injection ex with ex
                  injection ex with ex
                  omega
                have QB : Hid (qb ≠ gn) := by show qb ≠ gn; omega
                have PN6 := Lib.hid (PL.out.of_block (hbk w3.heap.size (by omega)))
                clear hbk hown hgr l6 V3
                have YQ := Lib.hid (St.out.q.1.of_block EQ.out)
                obtain ⟨g9, s9⟩ := St.out.put (w2 := W6) EQ.out BO.out VS.out (Nat.le_refl _) HNB.out Hq.out L6.out QB.out c3
                have S9 : Hid (Rnd w (((((W6.setCell ⟨qb, 0, none⟩ (.slice A3 60 c3)).setCell ⟨qb, 1, none⟩ (.int .i64 f9)).setCell ⟨qb, 2, none⟩ (.int .i64 r)).setCell ⟨qb, 3, none⟩ (.int .i64 r9)).setCell ⟨qb, 4, none⟩ (.int .i64 c9)) qb gn 0 (n' + 1) cn (L ++ [1 + d])) := ⟨g9, _, _, _, _, _, _, _, s9⟩
                clear s9 EQ BO VS HNB Ll bL VL PL S5 V4 PN bA
                have PN := PN6
                clear PN6
                have nq : w3.heap.size ≠ qb := by omega
                obtain ⟨p0, p1, p2, p3, p4, pf⟩ := PN.out.cells
                obtain ⟨y0, y1, y2, y3, y4, yf⟩ := YQ.out.cells
                clear pf
                obtain ⟨WZ, hWZ⟩ : ∃ WZ, ((((W6.setCell ⟨qb, 0, none⟩ (.slice A3 60 c3)).setCell ⟨qb, 1, none⟩ (.int .i64 f9)).setCell ⟨qb, 2, none⟩ (.int .i64 r)).setCell ⟨qb, 3, none⟩ (.int .i64 r9)).setCell ⟨qb, 4, none⟩ (.int .i64 c9) = WZ := ⟨_, rfl⟩
                rw [hWZ] at S9
                go_wp2
                go_roundw
                case rel => exact ⟨k + 1, _, _, _, _, _, rfl, by go_num, by omega, S9.out⟩
                case measure => simp [intOf]; omega
                skip
        · have hend := fun e w' (he : PushEnd wr 60 ss f l r c (1 + d) e w') => (by unfold PushEnd at he; rw [if_neg (by rw [hc1]; simp)] at he; exact he : NewQ2 wr 60 ss f l r c (.int .i64 (-1)) e w')
          have HC2 := Lib.hid (HC.out.mono hend)
          clear hend hc1 HC HQP
          rcases hpu with rfl | rfl
          · go_wp2_with fail
            as_aux_lemma =>
              refine HC2.out.mono ?_
              rintro e w3 ⟨A3, c3, rfl, v3, b3⟩
              have z3 : wr.heap.size ≤ w3.heap.size := b3.size
              clear y0 y1 y2 y3 y4 yf HC2
              go_wp2_with fail
              obtain ⟨W4, hW4⟩ : ∃ W4, w3.alloc (.cells #[.slice A3 60 c3, .int .i64 f, .int .i64 l, .int .i64 r, .int .i64 c] 26) = W4 := ⟨_, rfl⟩
              have b4 : Below w3.heap.size w3 W4 := by rw [← hW4]; exact bel_alloc _ _
              have PN : Hid (Blk5 W4 w3.heap.size (.slice A3 60 c3) (.int .i64 f) (.int .i64 l) (.int .i64 r) (.int .i64 c)) := by rw [← hW4]; exact heap_alloc_new w3 _
              have z4 : w3.heap.size < W4.heap.size := PN.out.lt
              have S4 := Lib.hid (St.out.keep (bel_trans b3 b4))
              have V4 := Lib.hid (v3.below b4 (Nat.le_refl _))
              have bA := Lib.hid (bel_trans b3 b4)
              rw [hW4]
              clear hW4 b3 b4 v3
              refine (within_any (some ⟨b, off, none⟩) n' cap' L (1 + d) W4 Hnl.out (by omega) S4.out.li.ints).mono ?_
              rintro e W6 ⟨rfl, b5⟩
              have z5 : W4.heap.size ≤ W6.heap.size := b5.size
              have S5 := Lib.hid (S4.out.keep b5)
              replace V4 := Lib.hid (V4.out.below b5 (by omega))
              replace PN := Lib.hid (PN.out.of_block (b5.block _ z4))
              replace bA := Lib.hid (bel_trans bA.out b5)
              have Hq := Lib.hid S5.out.ql
              have L6 := Lib.hid S5.out.li
              clear b5 S4
              by_cases hmem : (1 + d) ∈ L
              · have hnm : decide ((1 + d) ∈ L) = true := decide_eq_true hmem
                rw [hnm]
                clear hnm hmem hc2 S5
                have hbl : b < wr.heap.size := St.out.li.lt
                have hql : qb < wr.heap.size := St.out.q.1.lt
                have EQ : Hid (W6.heap[qb]? = wr.heap[qb]?) := bA.out.block qb hql
                have BO : Hid (Below w.heap.size w W6) := St.out.old.trans (bA.out.mono St.out.old.size)
                have VS : Hid (SlV W6 wr.heap.size W6.heap.size A3 ss) := V4.out.wide (Nat.le_refl _) (by omega)
                have HNB : Hid (∀ g', A3 = some ⟨g', 0, none⟩ → g' ≠ b) := fun g' e9 => by
                  obtain ⟨gx, ex, k1, _, _⟩ := VS.out (by rw [Hq.out.len]; omega)
                  rw [e9] at ex
                  injection ex with ex
                  injection ex with ex
                  omega
                have YQ := Lib.hid (St.out.q.1.of_block EQ.out)
                obtain ⟨g9, s9⟩ := St.out.put (w2 := W6) EQ.out BO.out VS.out (Nat.le_refl _) HNB.out Hq.out L6.out St.out.qne c3
                have S9 : Hid (Rnd w (((((W6.setCell ⟨qb, 0, none⟩ (.slice A3 60 c3)).setCell ⟨qb, 1, none⟩ (.int .i64 f)).setCell ⟨qb, 2, none⟩ (.int .i64 l)).setCell ⟨qb, 3, none⟩ (.int .i64 r)).setCell ⟨qb, 4, none⟩ (.int .i64 c)) qb b off n' cap' L) := ⟨g9, _, _, _, _, _, _, _, s9⟩
                clear s9 EQ BO VS HNB V4 bA
                have nq : w3.heap.size ≠ qb := by omega
                obtain ⟨p0, p1, p2, p3, p4, pf⟩ := PN.out.cells
                obtain ⟨y0, y1, y2, y3, y4, yf⟩ := YQ.out.cells
                clear pf
                obtain ⟨WZ, hWZ⟩ : ∃ WZ, ((((W6.setCell ⟨qb, 0, none⟩ (.slice A3 60 c3)).setCell ⟨qb, 1, none⟩ (.int .i64 f)).setCell ⟨qb, 2, none⟩ (.int .i64 l)).setCell ⟨qb, 3, none⟩ (.int .i64 r)).setCell ⟨qb, 4, none⟩ (.int .i64 c) = WZ := ⟨_, rfl⟩
                rw [hWZ] at S9
                go_wp2
                go_roundw
                case rel => exact ⟨k + 1, _, _, _, _, _, rfl, by go_num, by omega, S9.out⟩
                case measure => simp [intOf]; omega
              · have hnm : decide ((1 + d) ∈ L) = false := decide_eq_false hmem
                rw [hnm]
                have hn9 : ¬ (n' : Int) < 60 := fun hh => hc2 ⟨hmem, by have := Hnl.out; omega⟩
                clear hnm hmem hc2 S5
                have hbl : b < wr.heap.size := St.out.li.lt
                have hql : qb < wr.heap.size := St.out.q.1.lt
                have EQ : Hid (W6.heap[qb]? = wr.heap[qb]?) := bA.out.block qb hql
                have BO : Hid (Below w.heap.size w W6) := St.out.old.trans (bA.out.mono St.out.old.size)
                have VS : Hid (SlV W6 wr.heap.size W6.heap.size A3 ss) := V4.out.wide (Nat.le_refl _) (by omega)
                have HNB : Hid (∀ g', A3 = some ⟨g', 0, none⟩ → g' ≠ b) := fun g' e9 => by
                  obtain ⟨gx, ex, k1, _, _⟩ := VS.out (by rw [Hq.out.len]; omega)
                  rw [e9] at ex
                  injection ex with ex
                  injection ex with ex
                  omega
                have YQ := Lib.hid (St.out.q.1.of_block EQ.out)
                obtain ⟨g9, s9⟩ := St.out.put (w2 := W6) EQ.out BO.out VS.out (Nat.le_refl _) HNB.out Hq.out L6.out St.out.qne c3
                have S9 : Hid (Rnd w (((((W6.setCell ⟨qb, 0, none⟩ (.slice A3 60 c3)).setCell ⟨qb, 1, none⟩ (.int .i64 f)).setCell ⟨qb, 2, none⟩ (.int .i64 l)).setCell ⟨qb, 3, none⟩ (.int .i64 r)).setCell ⟨qb, 4, none⟩ (.int .i64 c)) qb b off n' cap' L) := ⟨g9, _, _, _, _, _, _, _, s9⟩
                clear s9 EQ BO VS HNB V4 bA
                have nq : w3.heap.size ≠ qb := by omega
                obtain ⟨p0, p1, p2, p3, p4, pf⟩ := PN.out.cells
                obtain ⟨y0, y1, y2, y3, y4, yf⟩ := YQ.out.cells
                clear pf
                obtain ⟨WZ, hWZ⟩ : ∃ WZ, ((((W6.setCell ⟨qb, 0, none⟩ (.slice A3 60 c3)).setCell ⟨qb, 1, none⟩ (.int .i64 f)).setCell ⟨qb, 2, none⟩ (.int .i64 l)).setCell ⟨qb, 3, none⟩ (.int .i64 r)).setCell ⟨qb, 4, none⟩ (.int .i64 c) = WZ := ⟨_, rfl⟩
                rw [hWZ] at S9
                go_wp2
                go_roundw
                case rel => exact ⟨k + 1, _, _, _, _, _, rfl, by go_num, by omega, S9.out⟩
                case measure => simp [intOf]; omega
                skip
          · go_wp2_with fail
            as_aux_lemma =>
              refine HC2.out.mono ?_
              rintro e w3 ⟨A3, c3, rfl, v3, b3⟩
              have z3 : wr.heap.size ≤ w3.heap.size := b3.size
              clear y0 y1 y2 y3 y4 yf HC2
              go_wp2_with fail
              obtain ⟨W4, hW4⟩ : ∃ W4, w3.alloc (.cells #[.slice A3 60 c3, .int .i64 f, .int .i64 l, .int .i64 r, .int .i64 c] 26) = W4 := ⟨_, rfl⟩
              have b4 : Below w3.heap.size w3 W4 := by rw [← hW4]; exact bel_alloc _ _
              have PN : Hid (Blk5 W4 w3.heap.size (.slice A3 60 c3) (.int .i64 f) (.int .i64 l) (.int .i64 r) (.int .i64 c)) := by rw [← hW4]; exact heap_alloc_new w3 _
              have z4 : w3.heap.size < W4.heap.size := PN.out.lt
              have S4 := Lib.hid (St.out.keep (bel_trans b3 b4))
              have V4 := Lib.hid (v3.below b4 (Nat.le_refl _))
              have bA := Lib.hid (bel_trans b3 b4)
              rw [hW4]
              clear hW4 b3 b4 v3
              refine (within_any (some ⟨b, off, none⟩) n' cap' L (1 + d) W4 Hnl.out (by omega) S4.out.li.ints).mono ?_
              rintro e W6 ⟨rfl, b5⟩
              have z5 : W4.heap.size ≤ W6.heap.size := b5.size
              have S5 := Lib.hid (S4.out.keep b5)
              replace V4 := Lib.hid (V4.out.below b5 (by omega))
              replace PN := Lib.hid (PN.out.of_block (b5.block _ z4))
              replace bA := Lib.hid (bel_trans bA.out b5)
              have Hq := Lib.hid S5.out.ql
              have L6 := Lib.hid S5.out.li
              clear b5 S4
              by_cases hmem : (1 + d) ∈ L
              · have hnm : decide ((1 + d) ∈ L) = true := decide_eq_true hmem
                rw [hnm]
                clear hnm hmem hc2 S5
                have hbl : b < wr.heap.size := St.out.li.lt
                have hql : qb < wr.heap.size := St.out.q.1.lt
                have EQ : Hid (W6.heap[qb]? = wr.heap[qb]?) := bA.out.block qb hql
                have BO : Hid (Below w.heap.size w W6) := St.out.old.trans (bA.out.mono St.out.old.size)
                have VS : Hid (SlV W6 wr.heap.size W6.heap.size A3 ss) := V4.out.wide (Nat.le_refl _) (by omega)
                have HNB : Hid (∀ g', A3 = some ⟨g', 0, none⟩ → g' ≠ b) := fun g' e9 => by
                  obtain ⟨gx, ex, k1, _, _⟩ := VS.out (by rw [Hq.out.len]; omega)
                  rw [e9] at ex
                  injection ex with ex
                  injection ex with ex
                  omega
                have YQ := Lib.hid (St.out.q.1.of_block EQ.out)
                obtain ⟨g9, s9⟩ := St.out.put (w2 := W6) EQ.out BO.out VS.out (Nat.le_refl _) HNB.out Hq.out L6.out St.out.qne c3
                have S9 : Hid (Rnd w (((((W6.setCell ⟨qb, 0, none⟩ (.slice A3 60 c3)).setCell ⟨qb, 1, none⟩ (.int .i64 f)).setCell ⟨qb, 2, none⟩ (.int .i64 l)).setCell ⟨qb, 3, none⟩ (.int .i64 r)).setCell ⟨qb, 4, none⟩ (.int .i64 c)) qb b off n' cap' L) := ⟨g9, _, _, _, _, _, _, _, s9⟩
                clear s9 EQ BO VS HNB V4 bA
                have nq : w3.heap.size ≠ qb := by omega
                obtain ⟨p0, p1, p2, p3, p4, pf⟩ := PN.out.cells
                obtain ⟨y0, y1, y2, y3, y4, yf⟩ := YQ.out.cells
                clear pf
                obtain ⟨WZ, hWZ⟩ : ∃ WZ, ((((W6.setCell ⟨qb, 0, none⟩ (.slice A3 60 c3)).setCell ⟨qb, 1, none⟩ (.int .i64 f)).setCell ⟨qb, 2, none⟩ (.int .i64 l)).setCell ⟨qb, 3, none⟩ (.int .i64 r)).setCell ⟨qb, 4, none⟩ (.int .i64 c) = WZ := ⟨_, rfl⟩
                rw [hWZ] at S9
                go_wp2
                go_roundw
                case rel => exact ⟨k + 1, _, _, _, _, _, rfl, by go_num, by omega, S9.out⟩
                case measure => simp [intOf]; omega
              · have hnm : decide ((1 + d) ∈ L) = false := decide_eq_false hmem
                rw [hnm]
                have hn9 : ¬ (n' : Int) < 60 := fun hh => hc2 ⟨hmem, by have := Hnl.out; omega⟩
                clear hnm hmem hc2 S5
                have hbl : b < wr.heap.size := St.out.li.lt
                have hql : qb < wr.heap.size := St.out.q.1.lt
                have EQ : Hid (W6.heap[qb]? = wr.heap[qb]?) := bA.out.block qb hql
                have BO : Hid (Below w.heap.size w W6) := St.out.old.trans (bA.out.mono St.out.old.size)
                have VS : Hid (SlV W6 wr.heap.size W6.heap.size A3 ss) := V4.out.wide (Nat.le_refl _) (by omega)
                have HNB : Hid (∀ g', A3 = some ⟨g', 0, none⟩ → g' ≠ b) := fun g' e9 => by
                  obtain ⟨gx, ex, k1, _, _⟩ := VS.out (by rw [Hq.out.len]; omega)
                  rw [e9] at ex
                  injection ex with ex
                  injection ex with ex
                  omega
                have YQ := Lib.hid (St.out.q.1.of_block EQ.out)
                obtain ⟨g9, s9⟩ := St.out.put (w2 := W6) EQ.out BO.out VS.out (Nat.le_refl _) HNB.out Hq.out L6.out St.out.qne c3
                have S9 : Hid (Rnd w (((((W6.setCell ⟨qb, 0, none⟩ (.slice A3 60 c3)).setCell ⟨qb, 1, none⟩ (.int .i64 f)).setCell ⟨qb, 2, none⟩ (.int .i64 l)).setCell ⟨qb, 3, none⟩ (.int .i64 r)).setCell ⟨qb, 4, none⟩ (.int .i64 c)) qb b off n' cap' L) := ⟨g9, _, _, _, _, _, _, _, s9⟩
                clear s9 EQ BO VS HNB V4 bA
                have nq : w3.heap.size ≠ qb := by omega
                obtain ⟨p0, p1, p2, p3, p4, pf⟩ := PN.out.cells
                obtain ⟨y0, y1, y2, y3, y4, yf⟩ := YQ.out.cells
                clear pf
                obtain ⟨WZ, hWZ⟩ : ∃ WZ, ((((W6.setCell ⟨qb, 0, none⟩ (.slice A3 60 c3)).setCell ⟨qb, 1, none⟩ (.int .i64 f)).setCell ⟨qb, 2, none⟩ (.int .i64 l)).setCell ⟨qb, 3, none⟩ (.int .i64 r)).setCell ⟨qb, 4, none⟩ (.int .i64 c) = WZ := ⟨_, rfl⟩
                rw [hWZ] at S9
                go_wp2
                go_roundw
                case rel => exact ⟨k + 1, _, _, _, _, _, rfl, by go_num, by omega, S9.out⟩
                case measure => simp [intOf]; omega
                skip
      by_cases hpo : m = 2
      · subst hpo
        clear hx4 hpu hx97
        have hcon := implPop_any A' 60 cq g (g + 1) ss f l r c wr St.out.ql.len (by omega) St.out.q.2.1 (by have := St.out.q.2.2.2; omega)
        have HC := Lib.hid hcon
        clear hcon
        rcases St.out.ql.pop with ⟨rfl, hc1⟩ | ⟨a, t, rfl, hc1, hc2, hc5⟩
        · have hend := fun e w' (he : RemEnd wr 60 ss f l r c f e w') => (by unfold RemEnd at he; rw [if_neg (by rw [hc1]; simp)] at he; exact he : NewQ2 wr 60 ss f l r c (.int .i64 0) e w')
          have HC2 := Lib.hid (HC.out.mono hend)
          clear hend hc1 HC
          obtain rfl : n' = 0 := by have := Hnl.out; simpa using this.symm
          go_wp2_with fail
          refine HC2.out.mono ?_
          rintro e w3 ⟨A3, c3, rfl, v3, b3⟩
          have z3 : wr.heap.size ≤ w3.heap.size := b3.size
          clear y0 y1 y2 y3 y4 yf HC2
          have Hq := Lib.hid St.out.ql
          have L6 := Lib.hid (St.out.li.below b3 St.out.li.lt)
          as_aux_lemma =>
            have hbl : b < wr.heap.size := St.out.li.lt
            have hql : qb < wr.heap.size := St.out.q.1.lt
            have EQ : Hid (w3.heap[qb]? = wr.heap[qb]?) := b3.block qb hql
            have BO : Hid (Below w.heap.size w w3) := St.out.old.trans (b3.mono St.out.old.size)
            have HNB : Hid (∀ g', A3 = some ⟨g', 0, none⟩ → g' ≠ b) := fun g' e9 => by
              obtain ⟨gx, ex, k1, _, _⟩ := v3 (by rw [Hq.out.len]; omega)
              rw [e9] at ex
              injection ex with ex
              injection ex with ex
              omega
            have YQ := Lib.hid (St.out.q.1.of_block EQ.out)
            obtain ⟨g9, s9⟩ := St.out.put (w2 := w3) EQ.out BO.out v3 (Nat.le_refl _) HNB.out Hq.out L6.out St.out.qne c3
            obtain ⟨WZ, hWZ⟩ : ∃ WZ, ((((w3.setCell ⟨qb, 0, none⟩ (.slice A3 60 c3)).setCell ⟨qb, 1, none⟩ (.int .i64 f)).setCell ⟨qb, 2, none⟩ (.int .i64 l)).setCell ⟨qb, 3, none⟩ (.int .i64 r)).setCell ⟨qb, 4, none⟩ (.int .i64 c) = WZ := ⟨_, rfl⟩
            rw [hWZ] at s9
            have SA : Hid (∀ o, Rnd w (WZ.alloc o) qb b off 0 cap' ([])) := fun o => ⟨g9, _, _, _, _, _, _, _, s9.keep (bel_alloc _ _)⟩
            have nq : w3.heap.size ≠ qb := by omega
            have lq : qb < w3.heap.size := by omega
            have lb : b < w3.heap.size := by omega
            clear s9 EQ BO HNB v3 b3
            obtain ⟨y0, y1, y2, y3, y4, yf⟩ := YQ.out.cells
            go_wp2
            go_roundw
            case rel => exact ⟨k + 1, b, off, 0, cap', ([]), by first | rfl | rw [if_neg hct], by go_num, by omega, SA.out _⟩
            case measure => simp [intOf]; omega
        · have hend := fun e w' (he : RemEnd wr 60 ss f l r c f e w') => (by unfold RemEnd at he; rw [if_pos hc1, hc2] at he; exact he : NewQ2 wr 60 (remS ss r f.toNat) (if (sl ss f.toNat).prev = -1 then (sl ss f.toNat).next else f) (if (sl ss f.toNat).next = -1 then (sl ss f.toNat).prev else l) f (c - 1) (.int .i64 a) e w')
          have HC2 := Lib.hid (HC.out.mono hend)
          have Hq := Lib.hid hc5
          clear hend hc1 HC hc2 hc5
          obtain ⟨nt, rfl⟩ : ∃ nt, n' = nt + 1 := ⟨t.length, by have := Hnl.out; simp at this; omega⟩
          obtain ⟨ct, rfl⟩ : ∃ ct, cap' = ct + 1 := ⟨cap' - 1, by omega⟩
          have hn9 : ¬ (nt : Int) + 1 = 0 := by omega
          have hn8 : (0 : Int) < (nt : Int) + 1 := by omega
          have hn7 : ((nt : Int) + 1 == 0) = false := by simp; omega
          obtain ⟨f9, hf9⟩ : ∃ f9, (if (sl ss f.toNat).prev = -1 then (sl ss f.toNat).next else f) = f9 := ⟨_, rfl⟩
          obtain ⟨l9, hl9⟩ : ∃ l9, (if (sl ss f.toNat).next = -1 then (sl ss f.toNat).prev else l) = l9 := ⟨_, rfl⟩
          obtain ⟨c9, hc9⟩ : ∃ c9, c - 1 = c9 := ⟨_, rfl⟩
          obtain ⟨s9', hs9⟩ : ∃ s9', remS ss r f.toNat = s9' := ⟨_, rfl⟩
          rw [hf9, hl9, hc9, hs9] at Hq HC2
          clear hf9 hl9 hc9 hs9
          go_wp2_with fail
          refine HC2.out.mono ?_
          rintro e w3 ⟨A3, c3, rfl, v3, b3⟩
          have z3 : wr.heap.size ≤ w3.heap.size := b3.size
          clear y0 y1 y2 y3 y4 yf HC2
          have Lw := St.out.li.below b3 St.out.li.lt
          have ca : w3.cell? ⟨b, off, none⟩ = some (.int .i64 a) := by have := Lw.cells 0 (by omega); simpa using this
          have hle9 := Lw.le
          have hlen9 := Lw.len
          by_cases hct : ct = 0
          · obtain rfl := hct
            obtain rfl : nt = 0 := by omega
            obtain rfl : t = [] := List.length_eq_zero_iff.mp (by simpa using hlen9)
            have L6 : Hid (Li w3 w.heap.size b off 0 0 []) := Lib.hid ⟨rfl, Nat.le_refl _, Lw.low, Lw.lt, fun i hi => absurd hi (by omega), fun i hi => absurd hi (by omega)⟩
            clear Lw hle9 hlen9
            as_aux_lemma =>
              have hbl : b < wr.heap.size := St.out.li.lt
              have hql : qb < wr.heap.size := St.out.q.1.lt
              have EQ : Hid (w3.heap[qb]? = wr.heap[qb]?) := b3.block qb hql
              have BO : Hid (Below w.heap.size w w3) := St.out.old.trans (b3.mono St.out.old.size)
              have HNB : Hid (∀ g', A3 = some ⟨g', 0, none⟩ → g' ≠ b) := fun g' e9 => by
                obtain ⟨gx, ex, k1, _, _⟩ := v3 (by rw [Hq.out.len]; omega)
                rw [e9] at ex
                injection ex with ex
                injection ex with ex
                omega
              have YQ := Lib.hid (St.out.q.1.of_block EQ.out)
              obtain ⟨g9, s9⟩ := St.out.put (w2 := w3) EQ.out BO.out v3 (Nat.le_refl _) HNB.out Hq.out L6.out St.out.qne c3
              obtain ⟨WZ, hWZ⟩ : ∃ WZ, ((((w3.setCell ⟨qb, 0, none⟩ (.slice A3 60 c3)).setCell ⟨qb, 1, none⟩ (.int .i64 f9)).setCell ⟨qb, 2, none⟩ (.int .i64 l9)).setCell ⟨qb, 3, none⟩ (.int .i64 f)).setCell ⟨qb, 4, none⟩ (.int .i64 c9) = WZ := ⟨_, rfl⟩
              rw [hWZ] at s9
              have SA : Hid (∀ o, Rnd w (WZ.alloc o) qb b off 0 0 ([])) := fun o => ⟨g9, _, _, _, _, _, _, _, s9.keep (bel_alloc _ _)⟩
              have nq : w3.heap.size ≠ qb := by omega
              have lq : qb < w3.heap.size := by omega
              have lb : b < w3.heap.size := by omega
              clear s9 EQ BO HNB v3 b3
              obtain ⟨y0, y1, y2, y3, y4, yf⟩ := YQ.out.cells
              go_wp2
              go_roundw
              case rel => exact ⟨k + 1, b, off, 0, 0, ([]), by first | rfl | rw [if_neg hct], by go_num, by omega, SA.out _⟩
              case measure => simp [intOf]; omega
          · have L6 : Hid (Li w3 w.heap.size b (off + 1) nt ct t) := Lib.hid (by have := Lw.tail; simpa using this)
            clear Lw hle9 hlen9
            as_aux_lemma =>
              have hbl : b < wr.heap.size := St.out.li.lt
              have hql : qb < wr.heap.size := St.out.q.1.lt
              have EQ : Hid (w3.heap[qb]? = wr.heap[qb]?) := b3.block qb hql
              have BO : Hid (Below w.heap.size w w3) := St.out.old.trans (b3.mono St.out.old.size)
              have HNB : Hid (∀ g', A3 = some ⟨g', 0, none⟩ → g' ≠ b) := fun g' e9 => by
                obtain ⟨gx, ex, k1, _, _⟩ := v3 (by rw [Hq.out.len]; omega)
                rw [e9] at ex
                injection ex with ex
                injection ex with ex
                omega
              have YQ := Lib.hid (St.out.q.1.of_block EQ.out)
              obtain ⟨g9, s9⟩ := St.out.put (w2 := w3) EQ.out BO.out v3 (Nat.le_refl _) HNB.out Hq.out L6.out St.out.qne c3
              obtain ⟨WZ, hWZ⟩ : ∃ WZ, ((((w3.setCell ⟨qb, 0, none⟩ (.slice A3 60 c3)).setCell ⟨qb, 1, none⟩ (.int .i64 f9)).setCell ⟨qb, 2, none⟩ (.int .i64 l9)).setCell ⟨qb, 3, none⟩ (.int .i64 f)).setCell ⟨qb, 4, none⟩ (.int .i64 c9) = WZ := ⟨_, rfl⟩
              rw [hWZ] at s9
              have SA : Hid (∀ o, Rnd w (WZ.alloc o) qb b (off + 1) nt ct t) := fun o => ⟨g9, _, _, _, _, _, _, _, s9.keep (bel_alloc _ _)⟩
              have nq : w3.heap.size ≠ qb := by omega
              have lq : qb < w3.heap.size := by omega
              have lb : b < w3.heap.size := by omega
              clear s9 EQ BO HNB v3 b3
              obtain ⟨y0, y1, y2, y3, y4, yf⟩ := YQ.out.cells
              go_wp2
              go_roundw
              case rel => exact ⟨k + 1, b, (off + 1), nt, ct, t, by first | rfl | rw [if_neg hct], by go_num, by omega, SA.out _⟩
              case measure => simp [intOf]; omega
      · obtain rfl : m = 3 := by omega
        clear hx4 hpu hpo
        by_cases h0 : n' = 0
        · obtain rfl := h0
          have SR : Hid (Rnd w wr qb b off 0 cap' L) := Lib.hid ⟨g, ss, f, l, r, c, A', cq, St.out⟩
          go_wp2
          go_roundw
          case rel => exact ⟨k + 1, b, off, 0, cap', L, rfl, by go_num, by omega, SR.out⟩
          case measure => simp [intOf]; omega
        · have hn9 : ¬ (n' : Int) = 0 := by omega
          have hn8 : (0 : Int) < (n' : Int) := by omega
          obtain ⟨kk, hkk⟩ : ∃ kk : Nat, x.tmod (n' : Int) = (kk : Int) := ⟨(x.tmod (n' : Int)).toNat, by rw [Int.tmod_eq_emod_of_nonneg x0]; have := Int.emod_nonneg x (show (n' : Int) ≠ 0 by omega); omega⟩
          have hkl : kk < n' := by
            have h1 := Int.emod_lt_of_pos x (show (0 : Int) < (n' : Int) by omega)
            rw [Int.tmod_eq_emod_of_nonneg x0] at hkk
            omega
          obtain ⟨px, hp1, hp2, hp3, hp4⟩ := St.out.ql.take (k := kk) (by have := Hnl.out; omega)
          have hck := St.out.li.cells kk hkl
          have HPL := Lib.hid (fun W (hb : Below wr.heap.size wr W) => implPlace_any A' 60 cq ss f l r c (L.getD kk 0) g (g + 1) W St.out.ql.len (St.out.q.2.1.below hb (by have := St.out.q.2.2.2; omega)) (by have := St.out.q.2.2.2; have := hb.size; omega))
          rw [hp1] at HPL
          have HRM := Lib.hid (fun W (hb : Below wr.heap.size wr W) => (implRemove_any A' 60 cq g (g + 1) ss f l r c (px : Int) W St.out.ql.len (by omega) (St.out.q.2.1.below hb (by have := St.out.q.2.2.2; omega)) (by have := St.out.q.2.2.2; have := hb.size; omega)).mono (fun e w' (he : RemEnd W 60 ss f l r c (px : Int) e w') => (by unfold RemEnd at he; rw [if_pos hp2, Int.toNat_natCast, hp3] at he; exact he : NewQ2 W 60 (remS ss r px) (if (sl ss px).prev = -1 then (sl ss px).next else f) (if (sl ss px).next = -1 then (sl ss px).prev else l) (px : Int) (c - 1) (.int .i64 (L.getD kk 0)) e w')))
          obtain ⟨fm, hf9⟩ : ∃ f9, (if (sl ss px).prev = -1 then (sl ss px).next else f) = f9 := ⟨_, rfl⟩
          obtain ⟨lm, hl9⟩ : ∃ l9, (if (sl ss px).next = -1 then (sl ss px).prev else l) = l9 := ⟨_, rfl⟩
          obtain ⟨cm, hc9⟩ : ∃ c9, c - 1 = c9 := ⟨_, rfl⟩
          obtain ⟨sm, hs9⟩ : ∃ s9', remS ss r px = s9' := ⟨_, rfl⟩
          obtain ⟨rm, hr9⟩ : ∃ r9, (px : Int) = r9 := ⟨_, rfl⟩
          rw [hf9, hl9, hc9, hs9, hr9] at hp4 HRM
          rw [hr9] at HPL
          have Hq := Lib.hid hp4
          have Hz := Lib.hid (show L.getD kk 0 = L.getD kk 0 from rfl)
          clear hf9 hl9 hc9 hs9 hr9 hp1 hp2 hp3 hp4
          obtain ⟨z, hz⟩ : ∃ z, L.getD kk 0 = z := ⟨_, rfl⟩
          rw [hz] at hck HPL HRM
          clear hz Hz
          have Hck := Lib.hid hck
          have Y := Lib.hid St.out.q.1
          have hbl : b < wr.heap.size := St.out.li.lt
          have hql : qb < wr.heap.size := St.out.q.1.lt
          have HS : Hid (Below wr.heap.size wr wr.drew) := Lib.hid (Below.refl _ _).drew
          clear hx97
          go_wp2_with fail
          go_cut [13, 14] (fun p id wx => ∃ x Am cm', p = .pointer (some ⟨x, 0, none⟩) ∧ id = .int .i64 z ∧ Mvd wr wx x Am cm' sm fm lm rm cm)
          case first =>
              as_aux_lemma =>
                clear y0 y1 y2 y3 y4 yf hck
                refine wp_region_held_drew (S := Below wr.heap.size wr) (by kernel_rfl) HS.out (fun _ => ?_)
                obtain ⟨v0, hv0⟩ : ∃ W', wr.drew = W' := ⟨_, rfl⟩
                have zz0 : wr.heap.size ≤ v0.heap.size := by rw [← hv0]; exact Nat.le_refl _
                rw [hv0] at HS ⊢
                clear hv0
                refine wpAnyH_take (i := 0) (v := .agg #[.slice A' 60 cq, .int .i64 f, .int .i64 l, .int .i64 r, .int .i64 c]) rfl (by kernel_rfl) (by kernel_rfl) (by kernel_rfl) (fun _ _ _ h => h) (.inl ⟨rfl, fun V hS => ?y1⟩) HS.out ?_
                case y1 =>
                  obtain ⟨u0, u1, u2, u3, u4, uf⟩ := (Y.out.of_block (hS.block _ hql)).cells
                  clear hS
                  go_simp
                go_simp
                refine wpAnyH_take (i := 1) (v := .agg #[.slice A' 60 cq, .int .i64 f, .int .i64 l, .int .i64 r, .int .i64 c]) rfl (by kernel_rfl) (by kernel_rfl) (by kernel_rfl) (fun _ _ _ h => h) (.inl ⟨rfl, fun V hS => ?y2⟩) HS.out ?_
                case y2 =>
                  obtain ⟨u0, u1, u2, u3, u4, uf⟩ := (Y.out.of_block (hS.block _ hql)).cells
                  clear hS
                  go_simp
                go_simp
                refine wpAnyH_take (i := 2) (v := (.slice (some ⟨b, off, none⟩) n' cap')) rfl (by kernel_rfl) (by kernel_rfl) (by kernel_rfl) (fun _ _ _ h => h) (.inl ⟨rfl, fun V hS => ?y0⟩) HS.out ?_
                case y0 =>
                  clear hS
                  go_simp
                go_simp
                refine wpAnyH_take (i := 3) (v := (.int .i64 kk)) rfl (by kernel_rfl) (by kernel_rfl) (by kernel_rfl) (fun _ _ _ h => h) (.inl ⟨rfl, fun V hS => ?y0⟩) HS.out ?_
                case y0 =>
                  clear hS
                  go_simp
                go_simp
                refine wpAnyH_take (i := 4) (v := (.pointer (some ⟨b, off + kk, none⟩))) rfl (by kernel_rfl) (by kernel_rfl) (by kernel_rfl) (fun _ _ _ h => h) (.inl ⟨rfl, fun V hS => ?y0⟩) HS.out ?_
                case y0 =>
                  clear hS
                  go_simp
                go_simp
                refine wpAnyH_take (i := 5) (v := .int .i64 z) rfl (by kernel_rfl) (by kernel_rfl) (by kernel_rfl) (fun _ _ _ h => h) (.inl ⟨rfl, fun V hS => ?y3⟩) HS.out ?_
                case y3 =>
                  have u0 := (hS.cell (p := ⟨b, off + kk, none⟩) hbl).trans Hck.out
                  clear hS
                  go_simp
                go_simp
                refine wpAnyH_ready (rs := [6, 11]) (by kernel_rfl) (by simp) (AllReadyH.cons rfl (fun J hJ => ?_) (AllReadyH.cons rfl (fun J hJ => ?_) AllReadyH.nil))
                · go_simp
                  refine (HPL.out _ HS.out).mono ?_
                  rintro e v1 ⟨rfl, bp⟩
                  have zv1 : v0.heap.size ≤ v1.heap.size := bp.size
                  replace HS := Lib.hid (HS.out.trans (bp.mono HS.out.size))
                  clear bp
                  refine hJ.out _ _ HS.out (fun _ => ?_)
                  clear hJ J
                  go_simp
                  refine wpAnyH_ready (rs := [7, 11]) (by kernel_rfl) (by simp) (AllReadyH.cons rfl (fun J hJ => ?_) (AllReadyH.cons rfl (fun J hJ => ?_) AllReadyH.nil))
                  · go_simp
                    refine (HRM.out _ HS.out).mono ?_
                    rintro e v2 ⟨A3, c3, rfl, sv, br⟩
                    have zv2 : v1.heap.size ≤ v2.heap.size := br.size
                    have hwr := HS.out.size
                    replace HS := Lib.hid (HS.out.trans (br.mono HS.out.size))
                    clear br
                    refine hJ.out _ _ HS.out (fun _ => ?_)
                    clear hJ J
                    go_simp
                    refine wpAnyH_take (i := 8) (v := (.tuple #[.agg #[.slice A3 60 c3, .int .i64 fm, .int .i64 lm, .int .i64 rm, .int .i64 cm], .int .i64 z])) rfl (by kernel_rfl) (by kernel_rfl) (by kernel_rfl) (fun _ _ _ h => h) (.inl ⟨rfl, fun V hS => ?y0⟩) HS.out ?_
                    case y0 =>
                      clear hS
                      go_simp
                    go_simp
                    refine wpAnyH_take (i := 9) (v := (.agg #[.slice A3 60 c3, .int .i64 fm, .int .i64 lm, .int .i64 rm, .int .i64 cm])) rfl (by kernel_rfl) (by kernel_rfl) (by kernel_rfl) (fun _ _ _ h => h) (.inl ⟨rfl, fun V hS => ?y0⟩) HS.out ?_
                    case y0 =>
                      clear hS
                      go_simp
                    go_simp
                    refine wpAnyH_take (i := 10) (v := (.int .i64 z)) rfl (by kernel_rfl) (by kernel_rfl) (by kernel_rfl) (fun _ _ _ h => h) (.inl ⟨rfl, fun V hS => ?y0⟩) HS.out ?_
                    case y0 =>
                      clear hS
                      go_simp
                    go_simp
                    refine wpAnyH_ready (rs := [11]) (by kernel_rfl) (by simp) (AllReadyH.cons rfl (fun J hJ => ?_) AllReadyH.nil)
                    go_simp
                    obtain ⟨v3, hal⟩ : ∃ W', v2.alloc (.cells #[.slice none 0 0, .int .i64 0, .int .i64 0, .int .i64 0, .int .i64 0] 26) = W' := ⟨_, rfl⟩
                    have bal : Below v2.heap.size v2 v3 := by rw [← hal]; exact bel_alloc _ _
                    have G : Hid (Blk5 v3 v2.heap.size (.slice none 0 0) (.int .i64 0) (.int .i64 0) (.int .i64 0) (.int .i64 0)) := by rw [← hal]; exact heap_alloc_new v2 _
                    have zv3 : v2.heap.size < v3.heap.size := G.out.lt
                    have SV : Hid (∃ lo hi, SlV v3 lo hi A3 sm ∧ (v2.heap.size < lo ∨ hi ≤ v2.heap.size) ∧ hi ≤ v3.heap.size ∧ wr.heap.size ≤ lo) := Lib.hid ⟨_, _, sv.below bal (Nat.le_refl _), .inr (Nat.le_refl _), by omega, hwr⟩
                    rw [hal]
                    replace HS := Lib.hid (HS.out.trans (bal.mono HS.out.size))
                    clear hal bal sv hwr
                    refine hJ.out _ _ HS.out (fun _ => ?_)
                    clear hJ J
                    go_simp
                    refine wpAnyH_ready (rs := [12]) (by kernel_rfl) (by simp) (AllReadyH.cons rfl (fun J hJ => ?_) AllReadyH.nil)
                    obtain ⟨q0, q1, q2, q3, q4, qf⟩ := G.out.cells
                    go_simp
                    clear q0 q1 q2 q3 q4 qf
                    obtain ⟨v9, hv9⟩ : ∃ W', (((((v3).setCell ⟨(v2).heap.size, 0, none⟩ (.slice A3 60 c3)).setCell ⟨(v2).heap.size, 1, none⟩ (.int .i64 fm)).setCell ⟨(v2).heap.size, 2, none⟩ (.int .i64 lm)).setCell ⟨(v2).heap.size, 3, none⟩ (.int .i64 rm)).setCell ⟨(v2).heap.size, 4, none⟩ (.int .i64 cm) = W' := ⟨_, rfl⟩
                    have GF : Hid (Blk5 v9 (v2).heap.size (.slice A3 60 c3) (.int .i64 fm) (.int .i64 lm) (.int .i64 rm) (.int .i64 cm)) := by rw [← hv9]; exact five G.out _ _ _ _ _
                    have z9 : (v3).heap.size = v9.heap.size := by rw [← hv9]; simp [World.setCell]
                    have RF : Hid (∃ lo hi, SlV v9 lo hi A3 sm ∧ hi ≤ v9.heap.size ∧ wr.heap.size ≤ lo ∧ wr.heap.size ≤ (v2).heap.size) := by
                      obtain ⟨lo, hi, h1, h2, h3, h4⟩ := SV.out
                      refine ⟨lo, hi, h1.of_block (fun k k1 k2 => ?_), by omega, h4, by omega⟩
                      have hne : k ≠ (v2).heap.size := by omega
                      rw [← hv9]
                      rw [heap_setCell_other _ _ _ _ hne, heap_setCell_other _ _ _ _ hne, heap_setCell_other _ _ _ _ hne, heap_setCell_other _ _ _ _ hne, heap_setCell_other _ _ _ _ hne]
                    replace HS : Hid (Below wr.heap.size wr v9) := by rw [← hv9]; exact ((((HS.out.setCell (by show wr.heap.size ≤ (v2).heap.size; omega) _).setCell (by show wr.heap.size ≤ (v2).heap.size; omega) _).setCell (by show wr.heap.size ≤ (v2).heap.size; omega) _).setCell (by show wr.heap.size ≤ (v2).heap.size; omega) _).setCell (by show wr.heap.size ≤ (v2).heap.size; omega) _
                    rw [hv9]
                    clear hv9
                    refine hJ.out _ _ HS.out (fun _ => ?_)
                    clear hJ J
                    go_simp
                    refine wpAnyH_take (i := (13)) (v := ((.int .i64 z))) rfl (by kernel_rfl) (by kernel_rfl) (by kernel_rfl) (fun _ _ _ h => h) (.inl ⟨rfl, fun V hS => ?y0⟩) HS.out ?_
                    case y0 =>
                      clear hS
                      go_simp
                    go_simp
                    refine wpAnyH_done (by kernel_rfl) ?_ _
                    go_wp2
                    go_meet
                    exact ⟨(v2).heap.size, A3, c3, rfl, rfl, GF.out, RF.out, HS.out⟩
                  · go_simp
                    obtain ⟨v2, hal⟩ : ∃ W', v1.alloc (.cells #[.slice none 0 0, .int .i64 0, .int .i64 0, .int .i64 0, .int .i64 0] 26) = W' := ⟨_, rfl⟩
                    have bal : Below v1.heap.size v1 v2 := by rw [← hal]; exact bel_alloc _ _
                    have G : Hid (Blk5 v2 v1.heap.size (.slice none 0 0) (.int .i64 0) (.int .i64 0) (.int .i64 0) (.int .i64 0)) := by rw [← hal]; exact heap_alloc_new v1 _
                    have zv2 : v1.heap.size < v2.heap.size := G.out.lt
                    rw [hal]
                    replace HS := Lib.hid (HS.out.trans (bal.mono HS.out.size))
                    clear hal bal
                    refine hJ.out _ _ HS.out (fun _ => ?_)
                    clear hJ J
                    go_simp
                    refine wpAnyH_ready (rs := [7]) (by kernel_rfl) (by simp) (AllReadyH.cons rfl (fun J hJ => ?_) AllReadyH.nil)
                    go_simp
                    refine (HRM.out _ HS.out).mono ?_
                    rintro e v3 ⟨A3, c3, rfl, sv, br⟩
                    have zv3 : v2.heap.size ≤ v3.heap.size := br.size
                    replace G := Lib.hid (G.out.of_block (br.block _ G.out.lt))
                    have SV : Hid (∃ lo hi, SlV v3 lo hi A3 sm ∧ (v1.heap.size < lo ∨ hi ≤ v1.heap.size) ∧ hi ≤ v3.heap.size ∧ wr.heap.size ≤ lo) := Lib.hid ⟨_, _, sv, .inl (by omega), Nat.le_refl _, HS.out.size⟩
                    clear sv
                    replace HS := Lib.hid (HS.out.trans (br.mono HS.out.size))
                    clear br
                    refine hJ.out _ _ HS.out (fun _ => ?_)
                    clear hJ J
                    go_simp
                    refine wpAnyH_take (i := 8) (v := (.tuple #[.agg #[.slice A3 60 c3, .int .i64 fm, .int .i64 lm, .int .i64 rm, .int .i64 cm], .int .i64 z])) rfl (by kernel_rfl) (by kernel_rfl) (by kernel_rfl) (fun _ _ _ h => h) (.inl ⟨rfl, fun V hS => ?y0⟩) HS.out ?_
                    case y0 =>
                      clear hS
                      go_simp
                    go_simp
                    refine wpAnyH_take (i := 9) (v := (.agg #[.slice A3 60 c3, .int .i64 fm, .int .i64 lm, .int .i64 rm, .int .i64 cm])) rfl (by kernel_rfl) (by kernel_rfl) (by kernel_rfl) (fun _ _ _ h => h) (.inl ⟨rfl, fun V hS => ?y0⟩) HS.out ?_
                    case y0 =>
                      clear hS
                      go_simp
                    go_simp
                    refine wpAnyH_take (i := 10) (v := (.int .i64 z)) rfl (by kernel_rfl) (by kernel_rfl) (by kernel_rfl) (fun _ _ _ h => h) (.inl ⟨rfl, fun V hS => ?y0⟩) HS.out ?_
                    case y0 =>
                      clear hS
                      go_simp
                    go_simp
                    refine wpAnyH_ready (rs := [12]) (by kernel_rfl) (by simp) (AllReadyH.cons rfl (fun J hJ => ?_) AllReadyH.nil)
                    obtain ⟨q0, q1, q2, q3, q4, qf⟩ := G.out.cells
                    go_simp
                    clear q0 q1 q2 q3 q4 qf
                    obtain ⟨v9, hv9⟩ : ∃ W', (((((v3).setCell ⟨(v1).heap.size, 0, none⟩ (.slice A3 60 c3)).setCell ⟨(v1).heap.size, 1, none⟩ (.int .i64 fm)).setCell ⟨(v1).heap.size, 2, none⟩ (.int .i64 lm)).setCell ⟨(v1).heap.size, 3, none⟩ (.int .i64 rm)).setCell ⟨(v1).heap.size, 4, none⟩ (.int .i64 cm) = W' := ⟨_, rfl⟩
                    have GF : Hid (Blk5 v9 (v1).heap.size (.slice A3 60 c3) (.int .i64 fm) (.int .i64 lm) (.int .i64 rm) (.int .i64 cm)) := by rw [← hv9]; exact five G.out _ _ _ _ _
                    have z9 : (v3).heap.size = v9.heap.size := by rw [← hv9]; simp [World.setCell]
                    have RF : Hid (∃ lo hi, SlV v9 lo hi A3 sm ∧ hi ≤ v9.heap.size ∧ wr.heap.size ≤ lo ∧ wr.heap.size ≤ (v1).heap.size) := by
                      obtain ⟨lo, hi, h1, h2, h3, h4⟩ := SV.out
                      refine ⟨lo, hi, h1.of_block (fun k k1 k2 => ?_), by omega, h4, by omega⟩
                      have hne : k ≠ (v1).heap.size := by omega
                      rw [← hv9]
                      rw [heap_setCell_other _ _ _ _ hne, heap_setCell_other _ _ _ _ hne, heap_setCell_other _ _ _ _ hne, heap_setCell_other _ _ _ _ hne, heap_setCell_other _ _ _ _ hne]
                    replace HS : Hid (Below wr.heap.size wr v9) := by rw [← hv9]; exact ((((HS.out.setCell (by show wr.heap.size ≤ (v1).heap.size; omega) _).setCell (by show wr.heap.size ≤ (v1).heap.size; omega) _).setCell (by show wr.heap.size ≤ (v1).heap.size; omega) _).setCell (by show wr.heap.size ≤ (v1).heap.size; omega) _).setCell (by show wr.heap.size ≤ (v1).heap.size; omega) _
                    rw [hv9]
                    clear hv9
                    refine hJ.out _ _ HS.out (fun _ => ?_)
                    clear hJ J
                    go_simp
                    refine wpAnyH_take (i := (13)) (v := ((.int .i64 z))) rfl (by kernel_rfl) (by kernel_rfl) (by kernel_rfl) (fun _ _ _ h => h) (.inl ⟨rfl, fun V hS => ?y0⟩) HS.out ?_
                    case y0 =>
                      clear hS
                      go_simp
                    go_simp
                    refine wpAnyH_done (by kernel_rfl) ?_ _
                    go_wp2
                    go_meet
                    exact ⟨(v1).heap.size, A3, c3, rfl, rfl, GF.out, RF.out, HS.out⟩
                · go_simp
                  obtain ⟨v1, hal⟩ : ∃ W', v0.alloc (.cells #[.slice none 0 0, .int .i64 0, .int .i64 0, .int .i64 0, .int .i64 0] 26) = W' := ⟨_, rfl⟩
                  have bal : Below v0.heap.size v0 v1 := by rw [← hal]; exact bel_alloc _ _
                  have G : Hid (Blk5 v1 v0.heap.size (.slice none 0 0) (.int .i64 0) (.int .i64 0) (.int .i64 0) (.int .i64 0)) := by rw [← hal]; exact heap_alloc_new v0 _
                  have zv1 : v0.heap.size < v1.heap.size := G.out.lt
                  rw [hal]
                  replace HS := Lib.hid (HS.out.trans (bal.mono HS.out.size))
                  clear hal bal
                  refine hJ.out _ _ HS.out (fun _ => ?_)
                  clear hJ J
                  go_simp
                  refine wpAnyH_ready (rs := [6]) (by kernel_rfl) (by simp) (AllReadyH.cons rfl (fun J hJ => ?_) AllReadyH.nil)
                  go_simp
                  refine (HPL.out _ HS.out).mono ?_
                  rintro e v2 ⟨rfl, bp⟩
                  have zv2 : v1.heap.size ≤ v2.heap.size := bp.size
                  replace G := Lib.hid (G.out.of_block (bp.block _ G.out.lt))
                  replace HS := Lib.hid (HS.out.trans (bp.mono HS.out.size))
                  clear bp
                  refine hJ.out _ _ HS.out (fun _ => ?_)
                  clear hJ J
                  go_simp
                  refine wpAnyH_ready (rs := [7]) (by kernel_rfl) (by simp) (AllReadyH.cons rfl (fun J hJ => ?_) AllReadyH.nil)
                  go_simp
                  refine (HRM.out _ HS.out).mono ?_
                  rintro e v3 ⟨A3, c3, rfl, sv, br⟩
                  have zv3 : v2.heap.size ≤ v3.heap.size := br.size
                  replace G := Lib.hid (G.out.of_block (br.block _ G.out.lt))
                  have SV : Hid (∃ lo hi, SlV v3 lo hi A3 sm ∧ (v0.heap.size < lo ∨ hi ≤ v0.heap.size) ∧ hi ≤ v3.heap.size ∧ wr.heap.size ≤ lo) := Lib.hid ⟨_, _, sv, .inl (by omega), Nat.le_refl _, HS.out.size⟩
                  clear sv
                  replace HS := Lib.hid (HS.out.trans (br.mono HS.out.size))
                  clear br
                  refine hJ.out _ _ HS.out (fun _ => ?_)
                  clear hJ J
                  go_simp
                  refine wpAnyH_take (i := 8) (v := (.tuple #[.agg #[.slice A3 60 c3, .int .i64 fm, .int .i64 lm, .int .i64 rm, .int .i64 cm], .int .i64 z])) rfl (by kernel_rfl) (by kernel_rfl) (by kernel_rfl) (fun _ _ _ h => h) (.inl ⟨rfl, fun V hS => ?y0⟩) HS.out ?_
                  case y0 =>
                    clear hS
                    go_simp
                  go_simp
                  refine wpAnyH_take (i := 9) (v := (.agg #[.slice A3 60 c3, .int .i64 fm, .int .i64 lm, .int .i64 rm, .int .i64 cm])) rfl (by kernel_rfl) (by kernel_rfl) (by kernel_rfl) (fun _ _ _ h => h) (.inl ⟨rfl, fun V hS => ?y0⟩) HS.out ?_
                  case y0 =>
                    clear hS
                    go_simp
                  go_simp
                  refine wpAnyH_take (i := 10) (v := (.int .i64 z)) rfl (by kernel_rfl) (by kernel_rfl) (by kernel_rfl) (fun _ _ _ h => h) (.inl ⟨rfl, fun V hS => ?y0⟩) HS.out ?_
                  case y0 =>
                    clear hS
                    go_simp
                  go_simp
                  refine wpAnyH_ready (rs := [12]) (by kernel_rfl) (by simp) (AllReadyH.cons rfl (fun J hJ => ?_) AllReadyH.nil)
                  obtain ⟨q0, q1, q2, q3, q4, qf⟩ := G.out.cells
                  go_simp
                  clear q0 q1 q2 q3 q4 qf
                  obtain ⟨v9, hv9⟩ : ∃ W', (((((v3).setCell ⟨(v0).heap.size, 0, none⟩ (.slice A3 60 c3)).setCell ⟨(v0).heap.size, 1, none⟩ (.int .i64 fm)).setCell ⟨(v0).heap.size, 2, none⟩ (.int .i64 lm)).setCell ⟨(v0).heap.size, 3, none⟩ (.int .i64 rm)).setCell ⟨(v0).heap.size, 4, none⟩ (.int .i64 cm) = W' := ⟨_, rfl⟩
                  have GF : Hid (Blk5 v9 (v0).heap.size (.slice A3 60 c3) (.int .i64 fm) (.int .i64 lm) (.int .i64 rm) (.int .i64 cm)) := by rw [← hv9]; exact five G.out _ _ _ _ _
                  have z9 : (v3).heap.size = v9.heap.size := by rw [← hv9]; simp [World.setCell]
                  have RF : Hid (∃ lo hi, SlV v9 lo hi A3 sm ∧ hi ≤ v9.heap.size ∧ wr.heap.size ≤ lo ∧ wr.heap.size ≤ (v0).heap.size) := by
                    obtain ⟨lo, hi, h1, h2, h3, h4⟩ := SV.out
                    refine ⟨lo, hi, h1.of_block (fun k k1 k2 => ?_), by omega, h4, by omega⟩
                    have hne : k ≠ (v0).heap.size := by omega
                    rw [← hv9]
                    rw [heap_setCell_other _ _ _ _ hne, heap_setCell_other _ _ _ _ hne, heap_setCell_other _ _ _ _ hne, heap_setCell_other _ _ _ _ hne, heap_setCell_other _ _ _ _ hne]
                  replace HS : Hid (Below wr.heap.size wr v9) := by rw [← hv9]; exact ((((HS.out.setCell (by show wr.heap.size ≤ (v0).heap.size; omega) _).setCell (by show wr.heap.size ≤ (v0).heap.size; omega) _).setCell (by show wr.heap.size ≤ (v0).heap.size; omega) _).setCell (by show wr.heap.size ≤ (v0).heap.size; omega) _).setCell (by show wr.heap.size ≤ (v0).heap.size; omega) _
                  rw [hv9]
                  clear hv9
                  refine hJ.out _ _ HS.out (fun _ => ?_)
                  clear hJ J
                  go_simp
                  refine wpAnyH_take (i := (13)) (v := ((.int .i64 z))) rfl (by kernel_rfl) (by kernel_rfl) (by kernel_rfl) (fun _ _ _ h => h) (.inl ⟨rfl, fun V hS => ?y0⟩) HS.out ?_
                  case y0 =>
                    clear hS
                    go_simp
                  go_simp
                  refine wpAnyH_done (by kernel_rfl) ?_ _
                  go_wp2
                  go_meet
                  exact ⟨(v0).heap.size, A3, c3, rfl, rfl, GF.out, RF.out, HS.out⟩
          case rest =>
            as_aux_lemma =>
              obtain ⟨xx, Am, cm', rfl, rfl, hM⟩ := hcut
              have HMv := Lib.hid hM
              have hck' := (hM.2.2.cell (p := ⟨b, off + kk, none⟩) hbl).trans Hck.out
              have Lc := Lib.hid (St.out.li.below hM.2.2 St.out.li.lt)
              have hblc : b < wc.heap.size := Lc.out.lt
              have hxl : xx < wc.heap.size := hM.1.lt
              have R0 := Lib.hid (RL.empty wc)
              clear hM hck HPL HRM HS Hck
              obtain ⟨wo, rfl⟩ : ∃ wo, wo = wr := ⟨_, rfl⟩
              go_wp2
              clear hck'
              go_loopw [15, 16] (fun v e wx => ∃ (u : Value) (j : Nat), u = v ∧ j ≤ n' ∧ e = .int .i64 j ∧ RL wc wx u ((L.take j).eraseIdx kk)) (fun _ e _ => n' - (intOf e).toNat)
              case atStart => exact ⟨_, 0, rfl, Nat.zero_le _, rfl, R0.out⟩
              case round =>
                obtain ⟨u, j, rfl, hj, rfl, hst⟩ := hrel
                have Hst := Lib.hid hst
                have zr : wc.heap.size ≤ wr.heap.size := hst.old.size
                obtain ⟨gR, cR, rfl⟩ := hst.some
                clear hst R0
                by_cases hjn : j < n'
                · have hcj := (Lc.out.below Hst.out.old hblc).cells j hjn
                  have hjL : j < L.length := by have := Hnl.out; omega
                  have hfewr : ((L.take j).eraseIdx kk).length ≤ 60 := by
                    have h1 := List.length_eraseIdx_le (L.take j) kk
                    rw [List.length_take] at h1
                    omega
                  by_cases hjk : j = kk
                  · have He : Hid ((L.take (j + 1)).eraseIdx kk = (L.take j).eraseIdx kk) := Lib.hid (by rw [hjk]; exact erase_eq (by omega))
                    generalize (L.take j).eraseIdx kk = ids at Hst He hfewr
                    subst hjk
                    go_wp2
                    go_roundw
                    case rel => exact ⟨_, j + 1, rfl, by omega, by go_num, by rw [He.out]; exact Hst.out⟩
                    case measure => simp [intOf]; omega
                  · have He := Lib.hid (erase_ne hjL hjk)
                    generalize (L.take j).eraseIdx kk = ids at Hst He hfewr
                    generalize L.getD j 0 = zj at hcj He
                    obtain ⟨i0, hi0, hz0, hz1, hz2⟩ := info_parts infoInt
                    have Hi0 := Lib.hid hi0
                    have Hz0 := Lib.hid hz0
                    have Hz1 := Lib.hid hz1
                    have Hz2 := Lib.hid hz2
                    clear hi0 hz0 hz1 hz2
                    have hjk' : ¬ (j : Int) = (kk : Int) := by omega
                    go_wp2_with (at_builtin; refine wpList_append_own _ rfl _ _ 28 rfl wc.heap.size 3 i0 (.int .i64 0) 1 8 Try.underlying28 Hi0.out Hz0.out Hz1.out Hz2.out rfl (by decide) _ _ _ rfl (Hst.out.own.alloc _) ⟨wr.heap.size, 0, none⟩ 1 1 [.int .i64 zj] rfl rfl ?c1h ?c2h ?c3h ?c4h ?c5h ?_)
                    case c1h => exact new_one_at rfl _ _
                    case c2h => simp [Value.oneCell']
                    case c3h => unfold maxLen; omega
                    case c4h => omega
                    case c5h => simp; omega
                    intro v' w7 hown hgr _
                    have HQ := Lib.hid (Hst.out.step hown hgr)
                    rw [← He.out] at HQ
                    clear hown hgr
                    go_wp2
                    go_roundw
                    case rel => exact ⟨_, j + 1, rfl, by omega, by go_num, HQ.out⟩
                    case measure => simp [intOf]; omega
                · obtain rfl : j = n' := by omega
                  have hte : L.take j = L := List.take_of_length_le (by have := Hnl.out; omega)
                  rw [hte] at Hst ⊢
                  have hl9 : (L.eraseIdx kk).length = j - 1 := by rw [List.length_eraseIdx, if_pos (by have := Hnl.out; omega), Hnl.out]
                  rw [hl9] at Hst ⊢
                  obtain ⟨n9, hn9'⟩ : ∃ n9, j - 1 = n9 := ⟨_, rfl⟩
                  rw [hn9'] at Hst hl9 ⊢
                  obtain ⟨hLi, hgR⟩ := Hst.out.li hl9 (lo := w.heap.size) (by have := St.out.old.size; have := HMv.out.2.2.size; omega)
                  obtain ⟨lo, hi, sv, hi1, hi2, hix⟩ := HMv.out.2.1
                  have hbo : Below wo.heap.size wo wr := HMv.out.2.2.trans (Hst.out.old.mono HMv.out.2.2.size)
                  have EQ : Hid (wr.heap[qb]? = wo.heap[qb]?) := Lib.hid (hbo.block qb hql)
                  have BO : Hid (Below w.heap.size w wr) := Lib.hid (St.out.old.trans (hbo.mono St.out.old.size))
                  have VS : Hid (SlV wr lo wr.heap.size Am sm) := Lib.hid ((sv.below Hst.out.old hi1).wide (Nat.le_refl _) (by omega))
                  have HNB : Hid (∀ g', Am = some ⟨g', 0, none⟩ → g' ≠ gR) := Lib.hid (fun g' e9 => by
                    obtain ⟨gx, ex, _, k2, _⟩ := sv (by rw [Hq.out.len]; omega)
                    rw [e9] at ex
                    injection ex with ex
                    injection ex with ex
                    omega)
                  obtain ⟨g9, s9⟩ := St.out.put (w2 := wr) EQ.out BO.out VS.out hi2 HNB.out Hq.out hLi (show qb ≠ gR by omega) cm'
                  have S9 : Hid (Rnd w (((((wr.setCell ⟨qb, 0, none⟩ (.slice Am 60 cm')).setCell ⟨qb, 1, none⟩ (.int .i64 fm)).setCell ⟨qb, 2, none⟩ (.int .i64 lm)).setCell ⟨qb, 3, none⟩ (.int .i64 rm)).setCell ⟨qb, 4, none⟩ (.int .i64 cm)) qb gR 0 n9 cR (L.eraseIdx kk)) := Lib.hid ⟨g9, _, _, _, _, _, _, _, s9⟩
                  obtain ⟨p0, p1, p2, p3, p4, pf⟩ := (HMv.out.1.of_block (Hst.out.old.block _ hxl)).cells
                  clear y0 y1 y2 y3 y4 yf pf
                  obtain ⟨y0, y1, y2, y3, y4, yf⟩ := (Y.out.of_block EQ.out).cells
                  have nq : xx ≠ qb := by omega
                  clear s9 EQ BO VS HNB hLi sv hbo
                  obtain ⟨WZ, hWZ⟩ : ∃ WZ, ((((wr.setCell ⟨qb, 0, none⟩ (.slice Am 60 cm')).setCell ⟨qb, 1, none⟩ (.int .i64 fm)).setCell ⟨qb, 2, none⟩ (.int .i64 lm)).setCell ⟨qb, 3, none⟩ (.int .i64 rm)).setCell ⟨qb, 4, none⟩ (.int .i64 cm) = WZ := ⟨_, rfl⟩
                  rw [hWZ] at S9
                  go_wp2
                  go_roundw
                  case rel => exact ⟨k + 1, _, _, _, _, _, rfl, by go_num, by omega, S9.out⟩
                  case measure => simp [intOf]; omega
    · have hends : ¬ (k : Int) < (n : Int) ∨ (k : Int) < (n : Int) ∧ ¬ (k : Int) < 120 := by
        by_cases h1 : k < n
        · exact Or.inr ⟨by omega, by omega⟩
        · exact Or.inl (by omega)
      obtain ⟨y0, y1, y2, y3, y4, yf⟩ := St.out.q.1.cells
      rcases hends with h1 | ⟨h1, h2⟩
      · go_wp2_with fail
        as_aux_lemma =>
          have hok := St.out.ql.ok
          refine (specQueueOk_any A' 60 cq g (g + 1) f l r c ss wr St.out.ql.len (by omega) St.out.q.2.1 (by have := St.out.q.2.2.2; omega)).mono ?_
          rintro e w2 ⟨rfl, b2⟩
          rw [hok]
          clear hok y0 y1 y2 y3 y4 yf
          replace St := Lib.hid (St.out.keep b2)
          clear b2
          have hls : listA ss f l r c = L := by
            obtain ⟨us, fs, v, e9⟩ := St.out.ql
            rw [listA_val v]
            exact e9
          obtain ⟨y0, y1, y2, y3, y4, yf⟩ := St.out.q.1.cells
          have HL := Lib.hid (implList_any A' 60 cq g (g + 1) ss f l r c w2 St.out.ql.len St.out.q.2.1 (by have := St.out.q.2.2.2; omega))
          rw [hls] at HL
          clear hls
          go_wp2_with fail
          refine HL.out.mono ?_
          rintro e w3 ⟨A3, c3, rfl, v3, b3⟩
          clear HL y0 y1 y2 y3 y4 yf
          replace St := Lib.hid (St.out.keep b3)
          clear b3
          obtain ⟨y0, y1, y2, y3, y4, yf⟩ := St.out.q.1.cells
          go_wp2_with fail
          have hL9 : L.length = n' := Hnl.out
          rw [hL9]
          refine (same_same A3 (some ⟨b, off, none⟩) n' c3 cap' L w3 hL9 (by omega) v3.ints St.out.li.ints).mono ?_
          rintro e w4 ⟨rfl, b4⟩
          clear y0 y1 y2 y3 y4 yf hL9 v3
          replace St := Lib.hid (St.out.keep b4)
          clear b4
          have hc9 : c = (n' : Int) := by rw [Hcl.out, Hnl.out]
          clear Hcl
          subst hc9
          obtain ⟨y0, y1, y2, y3, y4, yf⟩ := St.out.q.1.cells
          go_wp2_with fail
          clear y0 y1 y2 y3 y4 yf
          go_loopw [17] (fun i wx => ∃ j : Nat, i = .int .i64 j ∧ j ≤ n' ∧ QSt w wx qb b off n' cap' L g ss f l r n' A' cq) (fun i _ => n' - (intOf i).toNat)
          case atStart => exact ⟨0, rfl, by omega, St.out⟩
          case round =>
            obtain ⟨j, rfl, hj, st⟩ := hrel
            clear St
            have St := Lib.hid st
            clear st
            obtain ⟨y0, y1, y2, y3, y4, yf⟩ := St.out.q.1.cells
            by_cases hjn : j < n'
            · have hj' : (j : Int) < (n' : Int) := by omega
              have hci := St.out.li.cells j hjn
              have hix : idxI (listA ss f l r n') (L.getD j 0) = (j : Int) := by
                rw [listA_ql St.out.ql]
                exact idxI_here (by have := Hnl.out; omega) (fun i hi => nodup_ne St.out.ql.nodup hi (by have := Hnl.out; omega)) rfl
              have HAh := Lib.hid (fun W (h : QSt w W qb b off n' cap' L g ss f l r n' A' cq) => implAhead_any A' 60 cq g (g + 1) ss f l r n' (L.getD j 0) W h.ql.len h.q.2.1 (by have := h.q.2.2.2; omega))
              rw [hix] at HAh
              clear hix
              generalize L.getD j 0 = z at hci HAh
              have HP : Hid (Sq qb b (off + j) (.slice A' 60 cq) (.int .i64 f) (.int .i64 l) (.int .i64 r) (.int .i64 n') z wr.drew) := Lib.hid ⟨St.out.q.1.of_block rfl, hci⟩
              replace St := Lib.hid (St.out.keep (w2 := wr.drew) (Below.refl _ _).drew)
              clear hci y0 y1 y2 y3 y4 yf
              go_wp2_with fail
              refine wp_region_held_drew (S := Sq qb b (off + j) (.slice A' 60 cq) (.int .i64 f) (.int .i64 l) (.int .i64 r) (.int .i64 n') z) (by kernel_rfl) HP.out (fun _ => ?_)
              refine wpAnyH_take (i := 0) (v := (.agg #[.slice A' 60 cq, .int .i64 f, .int .i64 l, .int .i64 r, .int .i64 n'])) rfl (by kernel_rfl) (by kernel_rfl) (by kernel_rfl) (fun _ _ _ h => h) (.inl ⟨rfl, fun V hS => ?y0⟩) (HP).out ?_
              case y0 =>
                obtain ⟨u0, u1, u2, u3, u4, uf⟩ := hS.1.cells
                have u5 := hS.2
                go_simp
              go_simp
              refine wpAnyH_take (i := 1) (v := (.slice (some ⟨b, off, none⟩) n' cap')) rfl (by kernel_rfl) (by kernel_rfl) (by kernel_rfl) (fun _ _ _ h => h) (.inl ⟨rfl, fun V hS => ?y0⟩) (HP).out ?_
              case y0 =>
                obtain ⟨u0, u1, u2, u3, u4, uf⟩ := hS.1.cells
                have u5 := hS.2
                go_simp
              go_simp
              refine wpAnyH_take (i := 2) (v := (.int .i64 j)) rfl (by kernel_rfl) (by kernel_rfl) (by kernel_rfl) (fun _ _ _ h => h) (.inl ⟨rfl, fun V hS => ?y0⟩) (HP).out ?_
              case y0 =>
                obtain ⟨u0, u1, u2, u3, u4, uf⟩ := hS.1.cells
                have u5 := hS.2
                go_simp
              go_simp
              refine wpAnyH_take (i := 3) (v := (.pointer (some ⟨b, off + j, none⟩))) rfl (by kernel_rfl) (by kernel_rfl) (by kernel_rfl) (fun _ _ _ h => h) (.inl ⟨rfl, fun V hS => ?y0⟩) (HP).out ?_
              case y0 =>
                obtain ⟨u0, u1, u2, u3, u4, uf⟩ := hS.1.cells
                have u5 := hS.2
                go_simp
              go_simp
              refine wpAnyH_take (i := 4) (v := (.int .i64 z)) rfl (by kernel_rfl) (by kernel_rfl) (by kernel_rfl) (fun _ _ _ h => h) (.inl ⟨rfl, fun V hS => ?y0⟩) (HP).out ?_
              case y0 =>
                obtain ⟨u0, u1, u2, u3, u4, uf⟩ := hS.1.cells
                have u5 := hS.2
                go_simp
              go_simp
              refine wpAnyH_take (i := 6) (v := (.int .i64 j)) rfl (by kernel_rfl) (by kernel_rfl) (by kernel_rfl) (fun _ _ _ h => h) (.inl ⟨rfl, fun V hS => ?y0⟩) (HP).out ?_
              case y0 =>
                obtain ⟨u0, u1, u2, u3, u4, uf⟩ := hS.1.cells
                have u5 := hS.2
                go_simp
              go_simp
              refine wpAnyH_ready (rs := [5]) (by kernel_rfl) (by simp) (AllReadyH.cons rfl (fun J hJ => ?_) AllReadyH.nil)
              go_simp
              refine (HAh.out _ St.out).mono ?_
              rintro e w7 ⟨rfl, b7⟩
              have HP2 := Lib.hid (HP.out.below b7)
              replace St := Lib.hid (St.out.keep b7)
              clear b7
              refine hJ.out _ _ HP2.out (fun _ => ?_)
              clear hJ J
              go_simp
              refine wpAnyH_take (i := 7) (v := (.bool false)) rfl (by kernel_rfl) (by kernel_rfl) (by kernel_rfl) (fun _ _ _ h => h) (.inl ⟨rfl, fun V hS => ?y0⟩) (HP2).out ?_
              case y0 =>
                obtain ⟨u0, u1, u2, u3, u4, uf⟩ := hS.1.cells
                have u5 := hS.2
                go_simp
              go_simp
              refine wpAnyH_done (by kernel_rfl) ?_ _
              go_wp2
              go_roundw
              case rel => exact ⟨j + 1, by go_num, by omega, St.out⟩
              case measure => simp [intOf]; omega
            · have hj' : ¬ (j : Int) < (n' : Int) := by omega
              by_cases hz : n' = 0
              · obtain rfl := hz
                go_wp2
                go_ret
                exact ⟨rfl, St.out.old⟩
              · have hz1 : (0 : Int) < (n' : Int) := by omega
                have hc0 := St.out.li.cells 0 (by omega)
                obtain ⟨a, t, hLt⟩ : ∃ a t, L = a :: t := by
                  cases hL9 : L with
                  | nil => have := Hnl.out; rw [hL9] at this; simp at this; omega
                  | cons a t => exact ⟨a, t, rfl⟩
                subst hLt
                rw [List.getD_cons_zero, Nat.add_zero] at hc0
                obtain ⟨sm, fm, lm, rm, cm, hqm, hmv⟩ := St.out.ql.move
                have HMV := Lib.hid (fun W (hb : Below wr.heap.size wr W) => implMove_any A' 60 cq g (g + 1) ss f l r n' a W St.out.ql.len (by omega) (St.out.q.2.1.below hb (by have := St.out.q.2.2.2; omega)) (by have := St.out.q.2.2.2; have := hb.size; omega))
                have HMT := Lib.hid hmv
                have HQM := Lib.hid hqm
                have Y := Lib.hid St.out.q.1
                clear hqm hmv
                have HS : Hid (Below wr.heap.size wr wr.drew) := Lib.hid (Below.refl _ _).drew
                have hbl : b < wr.heap.size := St.out.li.lt
                have hql : qb < wr.heap.size := St.out.q.1.lt
                have Hc0 := Lib.hid hc0
                go_wp2_with fail
                go_cut [18, 19] (fun p ok wx => ∃ x Am cm', p = .pointer (some ⟨x, 0, none⟩) ∧ ok = .bool true ∧ Mvd wr wx x Am cm' sm fm lm rm cm)
                case first =>
                  as_aux_lemma =>
                    clear y0 y1 y2 y3 y4 yf hc0
                    refine wp_region_held_drew (S := Below wr.heap.size wr) (by kernel_rfl) HS.out (fun _ => ?_)
                    obtain ⟨v0, hv0⟩ : ∃ W', wr.drew = W' := ⟨_, rfl⟩
                    have zz0 : wr.heap.size ≤ v0.heap.size := by rw [← hv0]; exact Nat.le_refl _
                    rw [hv0] at HS ⊢
                    clear hv0
                    refine wpAnyH_take (i := 0) (v := .agg #[.slice A' 60 cq, .int .i64 f, .int .i64 l, .int .i64 r, .int .i64 n']) rfl (by kernel_rfl) (by kernel_rfl) (by kernel_rfl) (fun _ _ _ h => h) (.inl ⟨rfl, fun V hS => ?y1⟩) HS.out ?_
                    case y1 =>
                      obtain ⟨u0, u1, u2, u3, u4, uf⟩ := (Y.out.of_block (hS.block _ hql)).cells
                      clear hS
                      go_simp
                    go_simp
                    refine wpAnyH_take (i := 1) (v := (.slice (some ⟨b, off, none⟩) n' cap')) rfl (by kernel_rfl) (by kernel_rfl) (by kernel_rfl) (fun _ _ _ h => h) (.inl ⟨rfl, fun V hS => ?y0⟩) HS.out ?_
                    case y0 =>
                      clear hS
                      go_simp
                    go_simp
                    refine wpAnyH_take (i := 2) (v := (.pointer (some ⟨b, off, none⟩))) rfl (by kernel_rfl) (by kernel_rfl) (by kernel_rfl) (fun _ _ _ h => h) (.inl ⟨rfl, fun V hS => ?y0⟩) HS.out ?_
                    case y0 =>
                      clear hS
                      go_simp
                    go_simp
                    refine wpAnyH_take (i := 3) (v := .int .i64 a) rfl (by kernel_rfl) (by kernel_rfl) (by kernel_rfl) (fun _ _ _ h => h) (.inl ⟨rfl, fun V hS => ?y2⟩) HS.out ?_
                    case y2 =>
                      have u0 := (hS.cell (p := ⟨b, off, none⟩) hbl).trans Hc0.out
                      clear hS
                      go_simp
                    go_simp
                    refine wpAnyH_ready (rs := [4, 8]) (by kernel_rfl) (by simp) (AllReadyH.cons rfl (fun J hJ => ?_) (AllReadyH.cons rfl (fun J hJ => ?_) AllReadyH.nil))
                    · go_simp
                      refine (HMV.out _ HS.out).mono ?_
                      intro e v1 hend
                      obtain ⟨A3, c3, rfl, sv, b3⟩ := HMT.out _ e v1 hend
                      have zz1 : v0.heap.size ≤ v1.heap.size := b3.size
                      replace HS := Lib.hid (HS.out.trans (b3.mono zz0))
                      clear hend b3
                      refine hJ.out _ _ HS.out (fun _ => ?_)
                      clear hJ J
                      go_simp
                      refine wpAnyH_take (i := 5) (v := (.tuple #[.agg #[.slice A3 60 c3, .int .i64 fm, .int .i64 lm, .int .i64 rm, .int .i64 cm], .bool true])) rfl (by kernel_rfl) (by kernel_rfl) (by kernel_rfl) (fun _ _ _ h => h) (.inl ⟨rfl, fun V hS => ?y0⟩) HS.out ?_
                      case y0 =>
                        clear hS
                        go_simp
                      go_simp
                      refine wpAnyH_take (i := 6) (v := (.agg #[.slice A3 60 c3, .int .i64 fm, .int .i64 lm, .int .i64 rm, .int .i64 cm])) rfl (by kernel_rfl) (by kernel_rfl) (by kernel_rfl) (fun _ _ _ h => h) (.inl ⟨rfl, fun V hS => ?y0⟩) HS.out ?_
                      case y0 =>
                        clear hS
                        go_simp
                      go_simp
                      refine wpAnyH_take (i := 7) (v := (.bool true)) rfl (by kernel_rfl) (by kernel_rfl) (by kernel_rfl) (fun _ _ _ h => h) (.inl ⟨rfl, fun V hS => ?y0⟩) HS.out ?_
                      case y0 =>
                        clear hS
                        go_simp
                      go_simp
                      refine wpAnyH_ready (rs := [8]) (by kernel_rfl) (by simp) (AllReadyH.cons rfl (fun J hJ => ?_) AllReadyH.nil)
                      go_simp
                      obtain ⟨v2, hv2⟩ : ∃ W', v1.alloc (.cells #[.slice none 0 0, .int .i64 0, .int .i64 0, .int .i64 0, .int .i64 0] 26) = W' := ⟨_, rfl⟩
                      have b2 : Below v1.heap.size v1 v2 := by rw [← hv2]; exact bel_alloc _ _
                      have G : Hid (Blk5 v2 v1.heap.size (.slice none 0 0) (.int .i64 0) (.int .i64 0) (.int .i64 0) (.int .i64 0)) := by rw [← hv2]; exact heap_alloc_new v1 _
                      have zz2 : v1.heap.size < v2.heap.size := G.out.lt
                      have SV : Hid (∃ lo hi, SlV v2 lo hi A3 sm ∧ (v1.heap.size < lo ∨ hi ≤ v1.heap.size) ∧ hi ≤ v2.heap.size ∧ wr.heap.size ≤ lo) := Lib.hid ⟨_, _, sv.below b2 (Nat.le_refl _), .inr (Nat.le_refl _), by omega, by omega⟩
                      rw [hv2]
                      replace HS := Lib.hid (HS.out.trans (b2.mono (by omega)))
                      clear hv2 b2 sv
                      refine hJ.out _ _ HS.out (fun _ => ?_)
                      clear hJ J
                      go_simp
                      refine wpAnyH_ready (rs := [9]) (by kernel_rfl) (by simp) (AllReadyH.cons rfl (fun J hJ => ?_) AllReadyH.nil)
                      obtain ⟨q0, q1, q2, q3, q4, qf⟩ := G.out.cells
                      go_simp
                      clear q0 q1 q2 q3 q4 qf
                      obtain ⟨v9, hv9⟩ : ∃ W', (((((v2).setCell ⟨(v1).heap.size, 0, none⟩ (.slice A3 60 c3)).setCell ⟨(v1).heap.size, 1, none⟩ (.int .i64 fm)).setCell ⟨(v1).heap.size, 2, none⟩ (.int .i64 lm)).setCell ⟨(v1).heap.size, 3, none⟩ (.int .i64 rm)).setCell ⟨(v1).heap.size, 4, none⟩ (.int .i64 cm) = W' := ⟨_, rfl⟩
                      have GF : Hid (Blk5 v9 (v1).heap.size (.slice A3 60 c3) (.int .i64 fm) (.int .i64 lm) (.int .i64 rm) (.int .i64 cm)) := by rw [← hv9]; exact five G.out _ _ _ _ _
                      have z9 : (v2).heap.size = v9.heap.size := by rw [← hv9]; simp [World.setCell]
                      have RF : Hid (∃ lo hi, SlV v9 lo hi A3 sm ∧ hi ≤ v9.heap.size ∧ wr.heap.size ≤ lo ∧ wr.heap.size ≤ (v1).heap.size) := by
                        obtain ⟨lo, hi, h1, h2, h3, h4⟩ := SV.out
                        refine ⟨lo, hi, h1.of_block (fun k k1 k2 => ?_), by omega, h4, by omega⟩
                        have hne : k ≠ (v1).heap.size := by omega
                        rw [← hv9]
                        rw [heap_setCell_other _ _ _ _ hne, heap_setCell_other _ _ _ _ hne, heap_setCell_other _ _ _ _ hne, heap_setCell_other _ _ _ _ hne, heap_setCell_other _ _ _ _ hne]
                      replace HS : Hid (Below wr.heap.size wr v9) := by rw [← hv9]; exact ((((HS.out.setCell (by show wr.heap.size ≤ (v1).heap.size; omega) _).setCell (by show wr.heap.size ≤ (v1).heap.size; omega) _).setCell (by show wr.heap.size ≤ (v1).heap.size; omega) _).setCell (by show wr.heap.size ≤ (v1).heap.size; omega) _).setCell (by show wr.heap.size ≤ (v1).heap.size; omega) _
                      rw [hv9]
                      clear hv9
                      refine hJ.out _ _ HS.out (fun _ => ?_)
                      clear hJ J
                      go_simp
                      refine wpAnyH_take (i := (10)) (v := ((.bool true))) rfl (by kernel_rfl) (by kernel_rfl) (by kernel_rfl) (fun _ _ _ h => h) (.inl ⟨rfl, fun V hS => ?y0⟩) HS.out ?_
                      case y0 =>
                        clear hS
                        go_simp
                      go_simp
                      refine wpAnyH_done (by kernel_rfl) ?_ _
                      go_wp2
                      go_meet
                      exact ⟨(v1).heap.size, A3, c3, rfl, rfl, GF.out, RF.out, HS.out⟩
                    · go_simp
                      obtain ⟨v1, hv1⟩ : ∃ W', v0.alloc (.cells #[.slice none 0 0, .int .i64 0, .int .i64 0, .int .i64 0, .int .i64 0] 26) = W' := ⟨_, rfl⟩
                      have b1 : Below v0.heap.size v0 v1 := by rw [← hv1]; exact bel_alloc _ _
                      have G : Hid (Blk5 v1 v0.heap.size (.slice none 0 0) (.int .i64 0) (.int .i64 0) (.int .i64 0) (.int .i64 0)) := by rw [← hv1]; exact heap_alloc_new v0 _
                      have zz1 : v0.heap.size < v1.heap.size := G.out.lt
                      rw [hv1]
                      replace HS := Lib.hid (HS.out.trans (b1.mono zz0))
                      clear hv1 b1
                      refine hJ.out _ _ HS.out (fun _ => ?_)
                      clear hJ J
                      go_simp
                      refine wpAnyH_ready (rs := [4]) (by kernel_rfl) (by simp) (AllReadyH.cons rfl (fun J hJ => ?_) AllReadyH.nil)
                      go_simp
                      refine (HMV.out _ HS.out).mono ?_
                      intro e v2 hend
                      obtain ⟨A3, c3, rfl, sv, b3⟩ := HMT.out _ e v2 hend
                      have zz2 : v1.heap.size ≤ v2.heap.size := b3.size
                      have SV : Hid (∃ lo hi, SlV v2 lo hi A3 sm ∧ (v0.heap.size < lo ∨ hi ≤ v0.heap.size) ∧ hi ≤ v2.heap.size ∧ wr.heap.size ≤ lo) := Lib.hid ⟨_, _, sv, .inl zz1, Nat.le_refl _, by omega⟩
                      replace G := Lib.hid (G.out.of_block (b3.block _ zz1))
                      replace HS := Lib.hid (HS.out.trans (b3.mono (by omega)))
                      clear hend b3 sv
                      refine hJ.out _ _ HS.out (fun _ => ?_)
                      clear hJ J
                      go_simp
                      refine wpAnyH_take (i := 5) (v := (.tuple #[.agg #[.slice A3 60 c3, .int .i64 fm, .int .i64 lm, .int .i64 rm, .int .i64 cm], .bool true])) rfl (by kernel_rfl) (by kernel_rfl) (by kernel_rfl) (fun _ _ _ h => h) (.inl ⟨rfl, fun V hS => ?y0⟩) HS.out ?_
                      case y0 =>
                        clear hS
                        go_simp
                      go_simp
                      refine wpAnyH_take (i := 6) (v := (.agg #[.slice A3 60 c3, .int .i64 fm, .int .i64 lm, .int .i64 rm, .int .i64 cm])) rfl (by kernel_rfl) (by kernel_rfl) (by kernel_rfl) (fun _ _ _ h => h) (.inl ⟨rfl, fun V hS => ?y0⟩) HS.out ?_
                      case y0 =>
                        clear hS
                        go_simp
                      go_simp
                      refine wpAnyH_take (i := 7) (v := (.bool true)) rfl (by kernel_rfl) (by kernel_rfl) (by kernel_rfl) (fun _ _ _ h => h) (.inl ⟨rfl, fun V hS => ?y0⟩) HS.out ?_
                      case y0 =>
                        clear hS
                        go_simp
                      go_simp
                      refine wpAnyH_ready (rs := [9]) (by kernel_rfl) (by simp) (AllReadyH.cons rfl (fun J hJ => ?_) AllReadyH.nil)
                      obtain ⟨q0, q1, q2, q3, q4, qf⟩ := G.out.cells
                      go_simp
                      clear q0 q1 q2 q3 q4 qf
                      obtain ⟨v9, hv9⟩ : ∃ W', (((((v2).setCell ⟨(v0).heap.size, 0, none⟩ (.slice A3 60 c3)).setCell ⟨(v0).heap.size, 1, none⟩ (.int .i64 fm)).setCell ⟨(v0).heap.size, 2, none⟩ (.int .i64 lm)).setCell ⟨(v0).heap.size, 3, none⟩ (.int .i64 rm)).setCell ⟨(v0).heap.size, 4, none⟩ (.int .i64 cm) = W' := ⟨_, rfl⟩
                      have GF : Hid (Blk5 v9 (v0).heap.size (.slice A3 60 c3) (.int .i64 fm) (.int .i64 lm) (.int .i64 rm) (.int .i64 cm)) := by rw [← hv9]; exact five G.out _ _ _ _ _
                      have z9 : (v2).heap.size = v9.heap.size := by rw [← hv9]; simp [World.setCell]
                      have RF : Hid (∃ lo hi, SlV v9 lo hi A3 sm ∧ hi ≤ v9.heap.size ∧ wr.heap.size ≤ lo ∧ wr.heap.size ≤ (v0).heap.size) := by
                        obtain ⟨lo, hi, h1, h2, h3, h4⟩ := SV.out
                        refine ⟨lo, hi, h1.of_block (fun k k1 k2 => ?_), by omega, h4, by omega⟩
                        have hne : k ≠ (v0).heap.size := by omega
                        rw [← hv9]
                        rw [heap_setCell_other _ _ _ _ hne, heap_setCell_other _ _ _ _ hne, heap_setCell_other _ _ _ _ hne, heap_setCell_other _ _ _ _ hne, heap_setCell_other _ _ _ _ hne]
                      replace HS : Hid (Below wr.heap.size wr v9) := by rw [← hv9]; exact ((((HS.out.setCell (by show wr.heap.size ≤ (v0).heap.size; omega) _).setCell (by show wr.heap.size ≤ (v0).heap.size; omega) _).setCell (by show wr.heap.size ≤ (v0).heap.size; omega) _).setCell (by show wr.heap.size ≤ (v0).heap.size; omega) _).setCell (by show wr.heap.size ≤ (v0).heap.size; omega) _
                      rw [hv9]
                      clear hv9
                      refine hJ.out _ _ HS.out (fun _ => ?_)
                      clear hJ J
                      go_simp
                      refine wpAnyH_take (i := (10)) (v := ((.bool true))) rfl (by kernel_rfl) (by kernel_rfl) (by kernel_rfl) (fun _ _ _ h => h) (.inl ⟨rfl, fun V hS => ?y0⟩) HS.out ?_
                      case y0 =>
                        clear hS
                        go_simp
                      go_simp
                      refine wpAnyH_done (by kernel_rfl) ?_ _
                      go_wp2
                      go_meet
                      exact ⟨(v0).heap.size, A3, c3, rfl, rfl, GF.out, RF.out, HS.out⟩
                case rest =>
                  as_aux_lemma =>
                    obtain ⟨x, Am, cm', rfl, rfl, hM⟩ := hcut
                    have XM := Lib.hid hM.1
                    have hxl : x < wc.heap.size := hM.1.lt
                    have BW := Lib.hid (St.out.old.trans (hM.2.2.mono St.out.old.size))
                    have Lc := Lib.hid (St.out.li.below hM.2.2 St.out.li.lt)
                    have HLM : Hid (∀ W, Below wc.heap.size wc W → Calls Try.prog 23 #[.agg #[.slice Am 60 cm', .int .i64 fm, .int .i64 lm, .int .i64 rm, .int .i64 cm]] W fun e w' => ∃ A5 c5, e = .returned (.slice A5 (t.length + 1) c5) ∧ IV w' W.heap.size w'.heap.size A5 (t ++ [a]) ∧ Below W.heap.size W w') := Lib.hid (fun W hb => by
                      obtain ⟨lo, hi, h1, h2, _⟩ := hM.2.1
                      have h := implList_any Am 60 cm' lo hi sm fm lm rm cm W HQM.out.len (h1.below hb h2) (Nat.le_trans h2 hb.size)
                      rw [listA_ql HQM.out] at h
                      exact h.mono fun e w' ⟨A5, c5, he, hi5, hb5⟩ => ⟨A5, c5, by rw [he, List.length_append]; rfl, hi5, hb5⟩)
                    obtain ⟨nt, hnt⟩ : ∃ nt, t.length = nt := ⟨_, rfl⟩
                    have hn1 : n' = nt + 1 := by have := Hnl.out; simp at this; omega
                    obtain ⟨ob, hob, HTC⟩ : ∃ ob, (if cap' = 1 then some (⟨b, off, none⟩ : Addr) else some ⟨b, off + 1, none⟩) = some ⟨b, ob, none⟩ ∧ Hid (∀ W, Below wc.heap.size wc W → ∀ j u, (t.map (Value.int .i64))[j]? = some u → W.cell? ((⟨b, ob, none⟩ : Addr).add j) = some u) := by
                      by_cases h1 : cap' = 1
                      · refine ⟨off, if_pos h1, Lib.hid (fun W _ j u hj => ?_)⟩
                        have : t = [] := List.eq_nil_of_length_eq_zero (by omega)
                        rw [this] at hj
                        simp at hj
                      · refine ⟨off + 1, if_neg h1, Lib.hid (fun W hb j u hj => ?_)⟩
                        have hjl : j < t.length := by have := (List.getElem?_eq_some_iff.1 hj).1; simpa using this
                        have hc := (hb.cell (p := ⟨b, off + (j + 1), none⟩) Lc.out.lt).trans (Lc.out.cells (j + 1) (by omega))
                        rw [List.getD_cons_succ, List.getD_eq_getElem?_getD, List.getElem?_eq_getElem hjl] at hc
                        have ea : (⟨b, off + 1, none⟩ : Addr).add j = ⟨b, off + (j + 1), none⟩ := by
                          unfold Addr.add; split
                          · next h => subst h; rfl
                          · simp; omega
                        rw [ea, hc]
                        rw [List.getElem?_map, List.getElem?_eq_getElem hjl] at hj
                        exact hj
                    have Hca := Lib.hid ((hM.2.2.cell (p := ⟨b, off, none⟩) hbl).trans Hc0.out)
                    have hblc : b < wc.heap.size := Lc.out.lt
                    have Htl := Lib.hid hnt
                    rw [hnt] at HLM
                    have HOB := Lib.hid hob
                    obtain ⟨ct, hct⟩ : ∃ ct, cap' - 1 = ct := ⟨_, rfl⟩
                    have hc1 : 1 ≤ cap' := by omega
                    obtain ⟨i0, hi0, hz0, hz1', hz2⟩ := info_parts infoInt
                    have Hi0 := Lib.hid hi0
                    have Hz0 := Lib.hid hz0
                    have Hz1 := Lib.hid hz1'
                    have Hz2 := Lib.hid hz2
                    clear hi0 hz0 hz1' hz2 hM HMV HMT HQM Y HS Hc0 hnt hob
                    subst hn1
                    have HS : Hid (Below wc.heap.size wc wc.drew) := Lib.hid (Below.refl _ _).drew
                    go_wp2_with fail
                    refine wp_region_held_drew (S := Below wc.heap.size wc) (by kernel_rfl) HS.out (fun _ => ?_)
                    obtain ⟨v0, hv0⟩ : ∃ W', wc.drew = W' := ⟨_, rfl⟩
                    rw [hv0] at HS ⊢
                    clear hv0
                    refine wpAnyH_take (i := 0) (v := (.bool true)) rfl (by kernel_rfl) (by kernel_rfl) (by kernel_rfl) (fun _ _ _ h => h) (.inl ⟨rfl, fun V hS => ?y0⟩) HS.out ?_
                    case y0 =>
                      clear hS
                      go_simp
                    go_simp
                    refine wpAnyH_take (i := 1) (v := (.bool false)) rfl (by kernel_rfl) (by kernel_rfl) (by kernel_rfl) (fun _ _ _ h => h) (.inl ⟨rfl, fun V hS => ?y0⟩) HS.out ?_
                    case y0 =>
                      clear hS
                      go_simp
                    go_simp
                    refine wpAnyH_take (i := 2) (v := (.bool false)) rfl (by kernel_rfl) (by kernel_rfl) (by kernel_rfl) (fun _ _ _ h => h) (.inl ⟨rfl, fun V hS => ?y0⟩) HS.out ?_
                    case y0 =>
                      clear hS
                      go_simp
                    go_simp
                    refine wpAnyH_take (i := 3) (v := .agg #[.slice Am 60 cm', .int .i64 fm, .int .i64 lm, .int .i64 rm, .int .i64 cm]) rfl (by kernel_rfl) (by kernel_rfl) (by kernel_rfl) (fun _ _ _ h => h) (.inl ⟨rfl, fun V hS => ?y1⟩) HS.out ?_
                    case y1 =>
                      obtain ⟨u0, u1, u2, u3, u4, uf⟩ := (XM.out.of_block (hS.block _ hxl)).cells
                      clear hS
                      go_simp
                    go_simp
                    refine wpAnyH_take (i := 6) (v := (.slice (some ⟨b, off, none⟩) (nt + 1) cap')) rfl (by kernel_rfl) (by kernel_rfl) (by kernel_rfl) (fun _ _ _ h => h) (.inl ⟨rfl, fun V hS => ?y0⟩) HS.out ?_
                    case y0 =>
                      clear hS
                      go_simp
                    go_simp
                    refine wpAnyH_take (i := 7) (v := .slice (some ⟨b, ob, none⟩) nt ct) rfl (by kernel_rfl) (by kernel_rfl) (by kernel_rfl) (fun _ _ _ h => h) (.inl ⟨rfl, fun V hS => ?y3⟩) HS.out ?_
                    case y3 =>
                      have hob := HOB.out
                      have h91 : ¬ (nt : Int) + 1 < 1 := by omega
                      have h92 : (1 : Int) ≤ (nt : Int) + 1 := by omega
                      clear hS
                      go_simp
                    go_simp
                    refine wpAnyH_take (i := 9) (v := (.slice (some ⟨b, off, none⟩) (nt + 1) cap')) rfl (by kernel_rfl) (by kernel_rfl) (by kernel_rfl) (fun _ _ _ h => h) (.inl ⟨rfl, fun V hS => ?y0⟩) HS.out ?_
                    case y0 =>
                      clear hS
                      go_simp
                    go_simp
                    refine wpAnyH_take (i := 10) (v := (.pointer (some ⟨b, off, none⟩))) rfl (by kernel_rfl) (by kernel_rfl) (by kernel_rfl) (fun _ _ _ h => h) (.inl ⟨rfl, fun V hS => ?y0⟩) HS.out ?_
                    case y0 =>
                      clear hS
                      go_simp
                    go_simp
                    refine wpAnyH_take (i := 11) (v := .int .i64 a) rfl (by kernel_rfl) (by kernel_rfl) (by kernel_rfl) (fun _ _ _ h => h) (.inl ⟨rfl, fun V hS => ?y2⟩) HS.out ?_
                    case y2 =>
                      have u0 := (hS.cell (p := ⟨b, off, none⟩) hblc).trans Hca.out
                      clear hS
                      go_simp
                    go_simp
                    refine wpAnyH_ready (rs := [4, 5, 12]) (by kernel_rfl) (by simp) (AllReadyH.cons rfl (fun J hJ => ?_) (AllReadyH.cons rfl (fun J hJ => ?_) (AllReadyH.cons rfl (fun J hJ => ?_) AllReadyH.nil)))
                    · go_simp
                      refine (HLM.out _ HS.out).mono ?_
                      rintro e v1 ⟨A5, c5, rfl, i5, b5⟩
                      obtain ⟨lo5, hi5, XC⟩ : ∃ lo hi, Hid (FCl v1 wc.heap.size lo hi A5 (t ++ [a])) := ⟨_, _, Lib.hid ⟨i5, HS.out.size, Nat.le_refl _⟩⟩
                      replace HS := Lib.hid (HS.out.trans (b5.mono HS.out.size))
                      clear b5 i5
                      refine hJ.out _ _ HS.out (fun _ => ?_)
                      clear hJ J
                      go_simp
                      refine wpAnyH_ready (rs := [5, 12]) (by kernel_rfl) (by simp) (AllReadyH.cons rfl (fun J hJ => ?_) (AllReadyH.cons rfl (fun J hJ => ?_) AllReadyH.nil))
                      · go_simp
                        obtain ⟨v2, g1, hV, hg1, xr, b5⟩ := b1_new v1 HS.out.size
                        have XR := Lib.hid xr
                        have ZA : Hid (g1 < lo5 ∨ hi5 ≤ g1) := Lib.hid (.inr (by rw [← hg1]; exact XC.out.2.2))
                        replace XC := Lib.hid (XC.out.below b5)
                        replace HS := Lib.hid (HS.out.trans (b5.mono HS.out.size))
                        rw [hV, hg1]
                        clear b5 hV hg1 xr
                        refine hJ.out _ _ HS.out (fun _ => ?_)
                        clear hJ J
                        go_simp
                        refine wpAnyH_ready (rs := [8, 12]) (by kernel_rfl) (by simp) (AllReadyH.cons rfl (fun J hJ => ?_) (AllReadyH.cons rfl (fun J hJ => ?_) AllReadyH.nil))
                        · refine step_append_g (by rfl) (.tmp 194) (.tmp 196) 28 (by rfl) wc.heap.size 3 i0 (.int .i64 0) 1 8 Try.underlying28 Hi0.out Hz0.out Hz1.out Hz2.out rfl (by decide) _ 0 [] rfl XR.out ⟨b, ob, none⟩ nt ct (t.map (Value.int .i64)) rfl ?a0 ?a1 ?a2 ?a3 ?a4 ?a5 ?_
                          case a0 => rw [List.length_map, Htl.out]; omega
                          case a1 => exact HTC.out _ HS.out
                          case a2 => exact map_ones t
                          case a3 => unfold maxLen; omega
                          case a4 => omega
                          case a5 => exact HS.out.size
                          intro v' v3 hown hgr hiff hat
                          obtain ⟨g2, c2, rfl, xr, hg2⟩ := a1_new hown hiff hat
                          have hc0 := XC.out.2.2
                          replace XC := Lib.hid (XC.out.grown hgr ZA.out)
                          replace ZA : Hid (g2 < lo5 ∨ hi5 ≤ g2) := Lib.hid (hg2.elim (fun h => by rw [h]; exact ZA.out) (fun h => .inr (by rw [h]; exact hc0)))
                          replace HS := Lib.hid (HS.out.trans (own_below hgr XR.out.lt.1 HS.out.size))
                          replace XR := Lib.hid xr
                          clear hown hgr hat xr hg2 hiff hc0
                          refine hJ.out _ _ HS.out (fun _ => ?_)
                          clear hJ J
                          go_simp
                          refine wpAnyH_ready (rs := [12]) (by kernel_rfl) (by simp) (AllReadyH.cons rfl (fun J hJ => ?_) AllReadyH.nil)
                          go_simp
                          obtain ⟨v4, g3, hV, hg3, xb, b5⟩ := b2_new v3 a
                          have XB := Lib.hid xb
                          have ZB : Hid (g3 ≠ g2) := Lib.hid (by have := XR.out.lt.2; omega)
                          replace XC := Lib.hid (XC.out.below b5)
                          replace XR := Lib.hid (XR.out.below b5)
                          replace HS := Lib.hid (HS.out.trans (b5.mono HS.out.size))
                          rw [hV, hg3]
                          clear b5 hV hg3 xb
                          refine hJ.out _ _ HS.out (fun _ => ?_)
                          clear hJ J
                          go_simp
                          refine wpAnyH_ready (rs := [13]) (by kernel_rfl) (by simp) (AllReadyH.cons rfl (fun J hJ => ?_) AllReadyH.nil)
                          refine step_append_g (by rfl) (.tmp 197) (.tmp 201) 28 (by rfl) wc.heap.size 3 i0 (.int .i64 0) 1 8 Try.underlying28 Hi0.out Hz0.out Hz1.out Hz2.out rfl (by decide) _ nt _ rfl XR.out ⟨g3, 0, none⟩ 1 1 [.int .i64 a] rfl rfl ?a1 ?a2 ?a3 ?a4 ?a5 ?_
                          case a1 => exact fb_cell XB.out
                          case a2 => simp [Value.oneCell']
                          case a3 => unfold maxLen; omega
                          case a4 => omega
                          case a5 => exact HS.out.size
                          intro v' v5 hown hgr _ hat
                          obtain ⟨g4, c4, rfl, xi⟩ := a2_new Htl.out hown
                          have XI := Lib.hid xi
                          replace XC := Lib.hid (XC.out.grown hgr ZA.out)
                          replace HS := Lib.hid (HS.out.trans (own_below hgr XR.out.lt.1 HS.out.size))
                          clear hown hgr hat xi XR XB ZB ZA
                          refine hJ.out _ _ HS.out (fun _ => ?_)
                          clear hJ J
                          go_simp
                          refine wpAnyH_ready (rs := [14]) (by kernel_rfl) (by simp) (AllReadyH.cons rfl (fun J hJ => ?_) AllReadyH.nil)
                          go_simp
                          refine (same_same A5 (some ⟨g4, 0, none⟩) (nt + 1) c5 c4 (t ++ [a]) _ (by rw [List.length_append, Htl.out]; rfl) (by omega) XC.out.1.ints XI.out).mono ?_
                          rintro e v6 ⟨rfl, b5⟩
                          replace HS := Lib.hid (HS.out.trans (b5.mono HS.out.size))
                          clear b5
                          refine hJ.out _ _ HS.out (fun _ => ?_)
                          clear hJ J
                          go_simp
                          refine wpAnyH_take (i := 15) (v := (.bool false)) rfl (by kernel_rfl) (by kernel_rfl) (by kernel_rfl) (fun _ _ _ h => h) (.inl ⟨rfl, fun V hS => ?y0⟩) HS.out ?_
                          case y0 =>
                            clear hS
                            go_simp
                          go_simp
                          refine wpAnyH_take (i := 16) (v := (.bool false)) rfl (by kernel_rfl) (by kernel_rfl) (by kernel_rfl) (fun _ _ _ h => h) (.inl ⟨rfl, fun V hS => ?y0⟩) HS.out ?_
                          case y0 =>
                            clear hS
                            go_simp
                          go_simp
                          refine wpAnyH_done (by kernel_rfl) ?_ _
                          go_wp2
                          go_ret
                          exact ⟨rfl, BW.out.trans (HS.out.mono BW.out.size)⟩
                        · go_simp
                          obtain ⟨v3, g3, hV, hg3, xb, b5⟩ := b2_new v2 a
                          have XB := Lib.hid xb
                          have ZB : Hid (g3 ≠ g1) := Lib.hid (by have := XR.out.lt.2; omega)
                          replace XC := Lib.hid (XC.out.below b5)
                          replace XR := Lib.hid (XR.out.below b5)
                          replace HS := Lib.hid (HS.out.trans (b5.mono HS.out.size))
                          rw [hV, hg3]
                          clear b5 hV hg3 xb
                          refine hJ.out _ _ HS.out (fun _ => ?_)
                          clear hJ J
                          go_simp
                          refine wpAnyH_ready (rs := [8]) (by kernel_rfl) (by simp) (AllReadyH.cons rfl (fun J hJ => ?_) AllReadyH.nil)
                          refine step_append_g (by rfl) (.tmp 194) (.tmp 196) 28 (by rfl) wc.heap.size 3 i0 (.int .i64 0) 1 8 Try.underlying28 Hi0.out Hz0.out Hz1.out Hz2.out rfl (by decide) _ 0 [] rfl XR.out ⟨b, ob, none⟩ nt ct (t.map (Value.int .i64)) rfl ?a0 ?a1 ?a2 ?a3 ?a4 ?a5 ?_
                          case a0 => rw [List.length_map, Htl.out]; omega
                          case a1 => exact HTC.out _ HS.out
                          case a2 => exact map_ones t
                          case a3 => unfold maxLen; omega
                          case a4 => omega
                          case a5 => exact HS.out.size
                          intro v' v4 hown hgr hiff hat
                          obtain ⟨g2, c2, rfl, xr, hg2⟩ := a1_new hown hiff hat
                          have hc0 := XC.out.2.2
                          replace XC := Lib.hid (XC.out.grown hgr ZA.out)
                          replace ZA : Hid (g2 < lo5 ∨ hi5 ≤ g2) := Lib.hid (hg2.elim (fun h => by rw [h]; exact ZA.out) (fun h => .inr (by rw [h]; exact hc0)))
                          have hb3 := XB.out.lt
                          replace XB := Lib.hid (XB.out.grown hgr ZB.out)
                          replace ZB : Hid (g3 ≠ g2) := Lib.hid (hg2.elim (fun h => by rw [h]; exact ZB.out) (fun h => by omega))
                          clear hb3
                          replace HS := Lib.hid (HS.out.trans (own_below hgr XR.out.lt.1 HS.out.size))
                          replace XR := Lib.hid xr
                          clear hown hgr hat xr hg2 hiff hc0
                          refine hJ.out _ _ HS.out (fun _ => ?_)
                          clear hJ J
                          go_simp
                          refine wpAnyH_ready (rs := [13]) (by kernel_rfl) (by simp) (AllReadyH.cons rfl (fun J hJ => ?_) AllReadyH.nil)
                          refine step_append_g (by rfl) (.tmp 197) (.tmp 201) 28 (by rfl) wc.heap.size 3 i0 (.int .i64 0) 1 8 Try.underlying28 Hi0.out Hz0.out Hz1.out Hz2.out rfl (by decide) _ nt _ rfl XR.out ⟨g3, 0, none⟩ 1 1 [.int .i64 a] rfl rfl ?a1 ?a2 ?a3 ?a4 ?a5 ?_
                          case a1 => exact fb_cell XB.out
                          case a2 => simp [Value.oneCell']
                          case a3 => unfold maxLen; omega
                          case a4 => omega
                          case a5 => exact HS.out.size
                          intro v' v5 hown hgr _ hat
                          obtain ⟨g4, c4, rfl, xi⟩ := a2_new Htl.out hown
                          have XI := Lib.hid xi
                          replace XC := Lib.hid (XC.out.grown hgr ZA.out)
                          replace HS := Lib.hid (HS.out.trans (own_below hgr XR.out.lt.1 HS.out.size))
                          clear hown hgr hat xi XR XB ZB ZA
                          refine hJ.out _ _ HS.out (fun _ => ?_)
                          clear hJ J
                          go_simp
                          refine wpAnyH_ready (rs := [14]) (by kernel_rfl) (by simp) (AllReadyH.cons rfl (fun J hJ => ?_) AllReadyH.nil)
                          go_simp
                          refine (same_same A5 (some ⟨g4, 0, none⟩) (nt + 1) c5 c4 (t ++ [a]) _ (by rw [List.length_append, Htl.out]; rfl) (by omega) XC.out.1.ints XI.out).mono ?_
                          rintro e v6 ⟨rfl, b5⟩
                          replace HS := Lib.hid (HS.out.trans (b5.mono HS.out.size))
                          clear b5
                          refine hJ.out _ _ HS.out (fun _ => ?_)
                          clear hJ J
                          go_simp
                          refine wpAnyH_take (i := 15) (v := (.bool false)) rfl (by kernel_rfl) (by kernel_rfl) (by kernel_rfl) (fun _ _ _ h => h) (.inl ⟨rfl, fun V hS => ?y0⟩) HS.out ?_
                          case y0 =>
                            clear hS
                            go_simp
                          go_simp
                          refine wpAnyH_take (i := 16) (v := (.bool false)) rfl (by kernel_rfl) (by kernel_rfl) (by kernel_rfl) (fun _ _ _ h => h) (.inl ⟨rfl, fun V hS => ?y0⟩) HS.out ?_
                          case y0 =>
                            clear hS
                            go_simp
                          go_simp
                          refine wpAnyH_done (by kernel_rfl) ?_ _
                          go_wp2
                          go_ret
                          exact ⟨rfl, BW.out.trans (HS.out.mono BW.out.size)⟩
                      · go_simp
                        obtain ⟨v2, g3, hV, hg3, xb, b5⟩ := b2_new v1 a
                        have XB := Lib.hid xb
                        replace XC := Lib.hid (XC.out.below b5)
                        replace HS := Lib.hid (HS.out.trans (b5.mono HS.out.size))
                        rw [hV, hg3]
                        clear b5 hV hg3 xb
                        refine hJ.out _ _ HS.out (fun _ => ?_)
                        clear hJ J
                        go_simp
                        refine wpAnyH_ready (rs := [5]) (by kernel_rfl) (by simp) (AllReadyH.cons rfl (fun J hJ => ?_) AllReadyH.nil)
                        go_simp
                        obtain ⟨v3, g1, hV, hg1, xr, b5⟩ := b1_new v2 HS.out.size
                        have XR := Lib.hid xr
                        have ZA : Hid (g1 < lo5 ∨ hi5 ≤ g1) := Lib.hid (.inr (by rw [← hg1]; exact XC.out.2.2))
                        replace XC := Lib.hid (XC.out.below b5)
                        have ZB : Hid (g3 ≠ g1) := Lib.hid (by have := XB.out.lt; omega)
                        replace XB := Lib.hid (XB.out.below b5)
                        replace HS := Lib.hid (HS.out.trans (b5.mono HS.out.size))
                        rw [hV, hg1]
                        clear b5 hV hg1 xr
                        refine hJ.out _ _ HS.out (fun _ => ?_)
                        clear hJ J
                        go_simp
                        refine wpAnyH_ready (rs := [8]) (by kernel_rfl) (by simp) (AllReadyH.cons rfl (fun J hJ => ?_) AllReadyH.nil)
                        refine step_append_g (by rfl) (.tmp 194) (.tmp 196) 28 (by rfl) wc.heap.size 3 i0 (.int .i64 0) 1 8 Try.underlying28 Hi0.out Hz0.out Hz1.out Hz2.out rfl (by decide) _ 0 [] rfl XR.out ⟨b, ob, none⟩ nt ct (t.map (Value.int .i64)) rfl ?a0 ?a1 ?a2 ?a3 ?a4 ?a5 ?_
                        case a0 => rw [List.length_map, Htl.out]; omega
                        case a1 => exact HTC.out _ HS.out
                        case a2 => exact map_ones t
                        case a3 => unfold maxLen; omega
                        case a4 => omega
                        case a5 => exact HS.out.size
                        intro v' v4 hown hgr hiff hat
                        obtain ⟨g2, c2, rfl, xr, hg2⟩ := a1_new hown hiff hat
                        have hc0 := XC.out.2.2
                        replace XC := Lib.hid (XC.out.grown hgr ZA.out)
                        replace ZA : Hid (g2 < lo5 ∨ hi5 ≤ g2) := Lib.hid (hg2.elim (fun h => by rw [h]; exact ZA.out) (fun h => .inr (by rw [h]; exact hc0)))
                        have hb3 := XB.out.lt
                        replace XB := Lib.hid (XB.out.grown hgr ZB.out)
                        replace ZB : Hid (g3 ≠ g2) := Lib.hid (hg2.elim (fun h => by rw [h]; exact ZB.out) (fun h => by omega))
                        clear hb3
                        replace HS := Lib.hid (HS.out.trans (own_below hgr XR.out.lt.1 HS.out.size))
                        replace XR := Lib.hid xr
                        clear hown hgr hat xr hg2 hiff hc0
                        refine hJ.out _ _ HS.out (fun _ => ?_)
                        clear hJ J
                        go_simp
                        refine wpAnyH_ready (rs := [13]) (by kernel_rfl) (by simp) (AllReadyH.cons rfl (fun J hJ => ?_) AllReadyH.nil)
                        refine step_append_g (by rfl) (.tmp 197) (.tmp 201) 28 (by rfl) wc.heap.size 3 i0 (.int .i64 0) 1 8 Try.underlying28 Hi0.out Hz0.out Hz1.out Hz2.out rfl (by decide) _ nt _ rfl XR.out ⟨g3, 0, none⟩ 1 1 [.int .i64 a] rfl rfl ?a1 ?a2 ?a3 ?a4 ?a5 ?_
                        case a1 => exact fb_cell XB.out
                        case a2 => simp [Value.oneCell']
                        case a3 => unfold maxLen; omega
                        case a4 => omega
                        case a5 => exact HS.out.size
                        intro v' v5 hown hgr _ hat
                        obtain ⟨g4, c4, rfl, xi⟩ := a2_new Htl.out hown
                        have XI := Lib.hid xi
                        replace XC := Lib.hid (XC.out.grown hgr ZA.out)
                        replace HS := Lib.hid (HS.out.trans (own_below hgr XR.out.lt.1 HS.out.size))
                        clear hown hgr hat xi XR XB ZB ZA
                        refine hJ.out _ _ HS.out (fun _ => ?_)
                        clear hJ J
                        go_simp
                        refine wpAnyH_ready (rs := [14]) (by kernel_rfl) (by simp) (AllReadyH.cons rfl (fun J hJ => ?_) AllReadyH.nil)
                        go_simp
                        refine (same_same A5 (some ⟨g4, 0, none⟩) (nt + 1) c5 c4 (t ++ [a]) _ (by rw [List.length_append, Htl.out]; rfl) (by omega) XC.out.1.ints XI.out).mono ?_
                        rintro e v6 ⟨rfl, b5⟩
                        replace HS := Lib.hid (HS.out.trans (b5.mono HS.out.size))
                        clear b5
                        refine hJ.out _ _ HS.out (fun _ => ?_)
                        clear hJ J
                        go_simp
                        refine wpAnyH_take (i := 15) (v := (.bool false)) rfl (by kernel_rfl) (by kernel_rfl) (by kernel_rfl) (fun _ _ _ h => h) (.inl ⟨rfl, fun V hS => ?y0⟩) HS.out ?_
                        case y0 =>
                          clear hS
                          go_simp
                        go_simp
                        refine wpAnyH_take (i := 16) (v := (.bool false)) rfl (by kernel_rfl) (by kernel_rfl) (by kernel_rfl) (fun _ _ _ h => h) (.inl ⟨rfl, fun V hS => ?y0⟩) HS.out ?_
                        case y0 =>
                          clear hS
                          go_simp
                        go_simp
                        refine wpAnyH_done (by kernel_rfl) ?_ _
                        go_wp2
                        go_ret
                        exact ⟨rfl, BW.out.trans (HS.out.mono BW.out.size)⟩
                    · go_simp
                      obtain ⟨v1, g1, hV, hg1, xr, b5⟩ := b1_new v0 HS.out.size
                      have XR := Lib.hid xr
                      replace HS := Lib.hid (HS.out.trans (b5.mono HS.out.size))
                      rw [hV, hg1]
                      clear b5 hV hg1 xr
                      refine hJ.out _ _ HS.out (fun _ => ?_)
                      clear hJ J
                      go_simp
                      refine wpAnyH_ready (rs := [4, 12]) (by kernel_rfl) (by simp) (AllReadyH.cons rfl (fun J hJ => ?_) (AllReadyH.cons rfl (fun J hJ => ?_) AllReadyH.nil))
                      · go_simp
                        refine (HLM.out _ HS.out).mono ?_
                        rintro e v2 ⟨A5, c5, rfl, i5, b5⟩
                        obtain ⟨lo5, hi5, XC, ZA⟩ : ∃ lo hi, Hid (FCl v2 wc.heap.size lo hi A5 (t ++ [a])) ∧ Hid (g1 < lo ∨ hi ≤ g1) := ⟨_, _, Lib.hid ⟨i5, HS.out.size, Nat.le_refl _⟩, Lib.hid (.inl XR.out.lt.2)⟩
                        replace XR := Lib.hid (XR.out.below b5)
                        replace HS := Lib.hid (HS.out.trans (b5.mono HS.out.size))
                        clear b5 i5
                        refine hJ.out _ _ HS.out (fun _ => ?_)
                        clear hJ J
                        go_simp
                        refine wpAnyH_ready (rs := [8, 12]) (by kernel_rfl) (by simp) (AllReadyH.cons rfl (fun J hJ => ?_) (AllReadyH.cons rfl (fun J hJ => ?_) AllReadyH.nil))
                        · refine step_append_g (by rfl) (.tmp 194) (.tmp 196) 28 (by rfl) wc.heap.size 3 i0 (.int .i64 0) 1 8 Try.underlying28 Hi0.out Hz0.out Hz1.out Hz2.out rfl (by decide) _ 0 [] rfl XR.out ⟨b, ob, none⟩ nt ct (t.map (Value.int .i64)) rfl ?a0 ?a1 ?a2 ?a3 ?a4 ?a5 ?_
                          case a0 => rw [List.length_map, Htl.out]; omega
                          case a1 => exact HTC.out _ HS.out
                          case a2 => exact map_ones t
                          case a3 => unfold maxLen; omega
                          case a4 => omega
                          case a5 => exact HS.out.size
                          intro v' v3 hown hgr hiff hat
                          obtain ⟨g2, c2, rfl, xr, hg2⟩ := a1_new hown hiff hat
                          have hc0 := XC.out.2.2
                          replace XC := Lib.hid (XC.out.grown hgr ZA.out)
                          replace ZA : Hid (g2 < lo5 ∨ hi5 ≤ g2) := Lib.hid (hg2.elim (fun h => by rw [h]; exact ZA.out) (fun h => .inr (by rw [h]; exact hc0)))
                          replace HS := Lib.hid (HS.out.trans (own_below hgr XR.out.lt.1 HS.out.size))
                          replace XR := Lib.hid xr
                          clear hown hgr hat xr hg2 hiff hc0
                          refine hJ.out _ _ HS.out (fun _ => ?_)
                          clear hJ J
                          go_simp
                          refine wpAnyH_ready (rs := [12]) (by kernel_rfl) (by simp) (AllReadyH.cons rfl (fun J hJ => ?_) AllReadyH.nil)
                          go_simp
                          obtain ⟨v4, g3, hV, hg3, xb, b5⟩ := b2_new v3 a
                          have XB := Lib.hid xb
                          have ZB : Hid (g3 ≠ g2) := Lib.hid (by have := XR.out.lt.2; omega)
                          replace XC := Lib.hid (XC.out.below b5)
                          replace XR := Lib.hid (XR.out.below b5)
                          replace HS := Lib.hid (HS.out.trans (b5.mono HS.out.size))
                          rw [hV, hg3]
                          clear b5 hV hg3 xb
                          refine hJ.out _ _ HS.out (fun _ => ?_)
                          clear hJ J
                          go_simp
                          refine wpAnyH_ready (rs := [13]) (by kernel_rfl) (by simp) (AllReadyH.cons rfl (fun J hJ => ?_) AllReadyH.nil)
                          refine step_append_g (by rfl) (.tmp 197) (.tmp 201) 28 (by rfl) wc.heap.size 3 i0 (.int .i64 0) 1 8 Try.underlying28 Hi0.out Hz0.out Hz1.out Hz2.out rfl (by decide) _ nt _ rfl XR.out ⟨g3, 0, none⟩ 1 1 [.int .i64 a] rfl rfl ?a1 ?a2 ?a3 ?a4 ?a5 ?_
                          case a1 => exact fb_cell XB.out
                          case a2 => simp [Value.oneCell']
                          case a3 => unfold maxLen; omega
                          case a4 => omega
                          case a5 => exact HS.out.size
                          intro v' v5 hown hgr _ hat
                          obtain ⟨g4, c4, rfl, xi⟩ := a2_new Htl.out hown
                          have XI := Lib.hid xi
                          replace XC := Lib.hid (XC.out.grown hgr ZA.out)
                          replace HS := Lib.hid (HS.out.trans (own_below hgr XR.out.lt.1 HS.out.size))
                          clear hown hgr hat xi XR XB ZB ZA
                          refine hJ.out _ _ HS.out (fun _ => ?_)
                          clear hJ J
                          go_simp
                          refine wpAnyH_ready (rs := [14]) (by kernel_rfl) (by simp) (AllReadyH.cons rfl (fun J hJ => ?_) AllReadyH.nil)
                          go_simp
                          refine (same_same A5 (some ⟨g4, 0, none⟩) (nt + 1) c5 c4 (t ++ [a]) _ (by rw [List.length_append, Htl.out]; rfl) (by omega) XC.out.1.ints XI.out).mono ?_
                          rintro e v6 ⟨rfl, b5⟩
                          replace HS := Lib.hid (HS.out.trans (b5.mono HS.out.size))
                          clear b5
                          refine hJ.out _ _ HS.out (fun _ => ?_)
                          clear hJ J
                          go_simp
                          refine wpAnyH_take (i := 15) (v := (.bool false)) rfl (by kernel_rfl) (by kernel_rfl) (by kernel_rfl) (fun _ _ _ h => h) (.inl ⟨rfl, fun V hS => ?y0⟩) HS.out ?_
                          case y0 =>
                            clear hS
                            go_simp
                          go_simp
                          refine wpAnyH_take (i := 16) (v := (.bool false)) rfl (by kernel_rfl) (by kernel_rfl) (by kernel_rfl) (fun _ _ _ h => h) (.inl ⟨rfl, fun V hS => ?y0⟩) HS.out ?_
                          case y0 =>
                            clear hS
                            go_simp
                          go_simp
                          refine wpAnyH_done (by kernel_rfl) ?_ _
                          go_wp2
                          go_ret
                          exact ⟨rfl, BW.out.trans (HS.out.mono BW.out.size)⟩
                        · go_simp
                          obtain ⟨v3, g3, hV, hg3, xb, b5⟩ := b2_new v2 a
                          have XB := Lib.hid xb
                          have ZB : Hid (g3 ≠ g1) := Lib.hid (by have := XR.out.lt.2; omega)
                          replace XC := Lib.hid (XC.out.below b5)
                          replace XR := Lib.hid (XR.out.below b5)
                          replace HS := Lib.hid (HS.out.trans (b5.mono HS.out.size))
                          rw [hV, hg3]
                          clear b5 hV hg3 xb
                          refine hJ.out _ _ HS.out (fun _ => ?_)
                          clear hJ J
                          go_simp
                          refine wpAnyH_ready (rs := [8]) (by kernel_rfl) (by simp) (AllReadyH.cons rfl (fun J hJ => ?_) AllReadyH.nil)
                          refine step_append_g (by rfl) (.tmp 194) (.tmp 196) 28 (by rfl) wc.heap.size 3 i0 (.int .i64 0) 1 8 Try.underlying28 Hi0.out Hz0.out Hz1.out Hz2.out rfl (by decide) _ 0 [] rfl XR.out ⟨b, ob, none⟩ nt ct (t.map (Value.int .i64)) rfl ?a0 ?a1 ?a2 ?a3 ?a4 ?a5 ?_
                          case a0 => rw [List.length_map, Htl.out]; omega
                          case a1 => exact HTC.out _ HS.out
                          case a2 => exact map_ones t
                          case a3 => unfold maxLen; omega
                          case a4 => omega
                          case a5 => exact HS.out.size
                          intro v' v4 hown hgr hiff hat
                          obtain ⟨g2, c2, rfl, xr, hg2⟩ := a1_new hown hiff hat
                          have hc0 := XC.out.2.2
                          replace XC := Lib.hid (XC.out.grown hgr ZA.out)
                          replace ZA : Hid (g2 < lo5 ∨ hi5 ≤ g2) := Lib.hid (hg2.elim (fun h => by rw [h]; exact ZA.out) (fun h => .inr (by rw [h]; exact hc0)))
                          have hb3 := XB.out.lt
                          replace XB := Lib.hid (XB.out.grown hgr ZB.out)
                          replace ZB : Hid (g3 ≠ g2) := Lib.hid (hg2.elim (fun h => by rw [h]; exact ZB.out) (fun h => by omega))
                          clear hb3
                          replace HS := Lib.hid (HS.out.trans (own_below hgr XR.out.lt.1 HS.out.size))
                          replace XR := Lib.hid xr
                          clear hown hgr hat xr hg2 hiff hc0
                          refine hJ.out _ _ HS.out (fun _ => ?_)
                          clear hJ J
                          go_simp
                          refine wpAnyH_ready (rs := [13]) (by kernel_rfl) (by simp) (AllReadyH.cons rfl (fun J hJ => ?_) AllReadyH.nil)
                          refine step_append_g (by rfl) (.tmp 197) (.tmp 201) 28 (by rfl) wc.heap.size 3 i0 (.int .i64 0) 1 8 Try.underlying28 Hi0.out Hz0.out Hz1.out Hz2.out rfl (by decide) _ nt _ rfl XR.out ⟨g3, 0, none⟩ 1 1 [.int .i64 a] rfl rfl ?a1 ?a2 ?a3 ?a4 ?a5 ?_
                          case a1 => exact fb_cell XB.out
                          case a2 => simp [Value.oneCell']
                          case a3 => unfold maxLen; omega
                          case a4 => omega
                          case a5 => exact HS.out.size
                          intro v' v5 hown hgr _ hat
                          obtain ⟨g4, c4, rfl, xi⟩ := a2_new Htl.out hown
                          have XI := Lib.hid xi
                          replace XC := Lib.hid (XC.out.grown hgr ZA.out)
                          replace HS := Lib.hid (HS.out.trans (own_below hgr XR.out.lt.1 HS.out.size))
                          clear hown hgr hat xi XR XB ZB ZA
                          refine hJ.out _ _ HS.out (fun _ => ?_)
                          clear hJ J
                          go_simp
                          refine wpAnyH_ready (rs := [14]) (by kernel_rfl) (by simp) (AllReadyH.cons rfl (fun J hJ => ?_) AllReadyH.nil)
                          go_simp
                          refine (same_same A5 (some ⟨g4, 0, none⟩) (nt + 1) c5 c4 (t ++ [a]) _ (by rw [List.length_append, Htl.out]; rfl) (by omega) XC.out.1.ints XI.out).mono ?_
                          rintro e v6 ⟨rfl, b5⟩
                          replace HS := Lib.hid (HS.out.trans (b5.mono HS.out.size))
                          clear b5
                          refine hJ.out _ _ HS.out (fun _ => ?_)
                          clear hJ J
                          go_simp
                          refine wpAnyH_take (i := 15) (v := (.bool false)) rfl (by kernel_rfl) (by kernel_rfl) (by kernel_rfl) (fun _ _ _ h => h) (.inl ⟨rfl, fun V hS => ?y0⟩) HS.out ?_
                          case y0 =>
                            clear hS
                            go_simp
                          go_simp
                          refine wpAnyH_take (i := 16) (v := (.bool false)) rfl (by kernel_rfl) (by kernel_rfl) (by kernel_rfl) (fun _ _ _ h => h) (.inl ⟨rfl, fun V hS => ?y0⟩) HS.out ?_
                          case y0 =>
                            clear hS
                            go_simp
                          go_simp
                          refine wpAnyH_done (by kernel_rfl) ?_ _
                          go_wp2
                          go_ret
                          exact ⟨rfl, BW.out.trans (HS.out.mono BW.out.size)⟩
                      · go_simp
                        obtain ⟨v2, g3, hV, hg3, xb, b5⟩ := b2_new v1 a
                        have XB := Lib.hid xb
                        have ZB : Hid (g3 ≠ g1) := Lib.hid (by have := XR.out.lt.2; omega)
                        replace XR := Lib.hid (XR.out.below b5)
                        replace HS := Lib.hid (HS.out.trans (b5.mono HS.out.size))
                        rw [hV, hg3]
                        clear b5 hV hg3 xb
                        refine hJ.out _ _ HS.out (fun _ => ?_)
                        clear hJ J
                        go_simp
                        refine wpAnyH_ready (rs := [4]) (by kernel_rfl) (by simp) (AllReadyH.cons rfl (fun J hJ => ?_) AllReadyH.nil)
                        go_simp
                        refine (HLM.out _ HS.out).mono ?_
                        rintro e v3 ⟨A5, c5, rfl, i5, b5⟩
                        obtain ⟨lo5, hi5, XC, ZA⟩ : ∃ lo hi, Hid (FCl v3 wc.heap.size lo hi A5 (t ++ [a])) ∧ Hid (g1 < lo ∨ hi ≤ g1) := ⟨_, _, Lib.hid ⟨i5, HS.out.size, Nat.le_refl _⟩, Lib.hid (.inl XR.out.lt.2)⟩
                        replace XR := Lib.hid (XR.out.below b5)
                        replace XB := Lib.hid (XB.out.below b5)
                        replace HS := Lib.hid (HS.out.trans (b5.mono HS.out.size))
                        clear b5 i5
                        refine hJ.out _ _ HS.out (fun _ => ?_)
                        clear hJ J
                        go_simp
                        refine wpAnyH_ready (rs := [8]) (by kernel_rfl) (by simp) (AllReadyH.cons rfl (fun J hJ => ?_) AllReadyH.nil)
                        refine step_append_g (by rfl) (.tmp 194) (.tmp 196) 28 (by rfl) wc.heap.size 3 i0 (.int .i64 0) 1 8 Try.underlying28 Hi0.out Hz0.out Hz1.out Hz2.out rfl (by decide) _ 0 [] rfl XR.out ⟨b, ob, none⟩ nt ct (t.map (Value.int .i64)) rfl ?a0 ?a1 ?a2 ?a3 ?a4 ?a5 ?_
                        case a0 => rw [List.length_map, Htl.out]; omega
                        case a1 => exact HTC.out _ HS.out
                        case a2 => exact map_ones t
                        case a3 => unfold maxLen; omega
                        case a4 => omega
                        case a5 => exact HS.out.size
                        intro v' v4 hown hgr hiff hat
                        obtain ⟨g2, c2, rfl, xr, hg2⟩ := a1_new hown hiff hat
                        have hc0 := XC.out.2.2
                        replace XC := Lib.hid (XC.out.grown hgr ZA.out)
                        replace ZA : Hid (g2 < lo5 ∨ hi5 ≤ g2) := Lib.hid (hg2.elim (fun h => by rw [h]; exact ZA.out) (fun h => .inr (by rw [h]; exact hc0)))
                        have hb3 := XB.out.lt
                        replace XB := Lib.hid (XB.out.grown hgr ZB.out)
                        replace ZB : Hid (g3 ≠ g2) := Lib.hid (hg2.elim (fun h => by rw [h]; exact ZB.out) (fun h => by omega))
                        clear hb3
                        replace HS := Lib.hid (HS.out.trans (own_below hgr XR.out.lt.1 HS.out.size))
                        replace XR := Lib.hid xr
                        clear hown hgr hat xr hg2 hiff hc0
                        refine hJ.out _ _ HS.out (fun _ => ?_)
                        clear hJ J
                        go_simp
                        refine wpAnyH_ready (rs := [13]) (by kernel_rfl) (by simp) (AllReadyH.cons rfl (fun J hJ => ?_) AllReadyH.nil)
                        refine step_append_g (by rfl) (.tmp 197) (.tmp 201) 28 (by rfl) wc.heap.size 3 i0 (.int .i64 0) 1 8 Try.underlying28 Hi0.out Hz0.out Hz1.out Hz2.out rfl (by decide) _ nt _ rfl XR.out ⟨g3, 0, none⟩ 1 1 [.int .i64 a] rfl rfl ?a1 ?a2 ?a3 ?a4 ?a5 ?_
                        case a1 => exact fb_cell XB.out
                        case a2 => simp [Value.oneCell']
                        case a3 => unfold maxLen; omega
                        case a4 => omega
                        case a5 => exact HS.out.size
                        intro v' v5 hown hgr _ hat
                        obtain ⟨g4, c4, rfl, xi⟩ := a2_new Htl.out hown
                        have XI := Lib.hid xi
                        replace XC := Lib.hid (XC.out.grown hgr ZA.out)
                        replace HS := Lib.hid (HS.out.trans (own_below hgr XR.out.lt.1 HS.out.size))
                        clear hown hgr hat xi XR XB ZB ZA
                        refine hJ.out _ _ HS.out (fun _ => ?_)
                        clear hJ J
                        go_simp
                        refine wpAnyH_ready (rs := [14]) (by kernel_rfl) (by simp) (AllReadyH.cons rfl (fun J hJ => ?_) AllReadyH.nil)
                        go_simp
                        refine (same_same A5 (some ⟨g4, 0, none⟩) (nt + 1) c5 c4 (t ++ [a]) _ (by rw [List.length_append, Htl.out]; rfl) (by omega) XC.out.1.ints XI.out).mono ?_
                        rintro e v6 ⟨rfl, b5⟩
                        replace HS := Lib.hid (HS.out.trans (b5.mono HS.out.size))
                        clear b5
                        refine hJ.out _ _ HS.out (fun _ => ?_)
                        clear hJ J
                        go_simp
                        refine wpAnyH_take (i := 15) (v := (.bool false)) rfl (by kernel_rfl) (by kernel_rfl) (by kernel_rfl) (fun _ _ _ h => h) (.inl ⟨rfl, fun V hS => ?y0⟩) HS.out ?_
                        case y0 =>
                          clear hS
                          go_simp
                        go_simp
                        refine wpAnyH_take (i := 16) (v := (.bool false)) rfl (by kernel_rfl) (by kernel_rfl) (by kernel_rfl) (fun _ _ _ h => h) (.inl ⟨rfl, fun V hS => ?y0⟩) HS.out ?_
                        case y0 =>
                          clear hS
                          go_simp
                        go_simp
                        refine wpAnyH_done (by kernel_rfl) ?_ _
                        go_wp2
                        go_ret
                        exact ⟨rfl, BW.out.trans (HS.out.mono BW.out.size)⟩
                    · go_simp
                      obtain ⟨v1, g3, hV, hg3, xb, b5⟩ := b2_new v0 a
                      have XB := Lib.hid xb
                      replace HS := Lib.hid (HS.out.trans (b5.mono HS.out.size))
                      rw [hV, hg3]
                      clear b5 hV hg3 xb
                      refine hJ.out _ _ HS.out (fun _ => ?_)
                      clear hJ J
                      go_simp
                      refine wpAnyH_ready (rs := [4, 5]) (by kernel_rfl) (by simp) (AllReadyH.cons rfl (fun J hJ => ?_) (AllReadyH.cons rfl (fun J hJ => ?_) AllReadyH.nil))
                      · go_simp
                        refine (HLM.out _ HS.out).mono ?_
                        rintro e v2 ⟨A5, c5, rfl, i5, b5⟩
                        obtain ⟨lo5, hi5, XC⟩ : ∃ lo hi, Hid (FCl v2 wc.heap.size lo hi A5 (t ++ [a])) := ⟨_, _, Lib.hid ⟨i5, HS.out.size, Nat.le_refl _⟩⟩
                        replace XB := Lib.hid (XB.out.below b5)
                        replace HS := Lib.hid (HS.out.trans (b5.mono HS.out.size))
                        clear b5 i5
                        refine hJ.out _ _ HS.out (fun _ => ?_)
                        clear hJ J
                        go_simp
                        refine wpAnyH_ready (rs := [5]) (by kernel_rfl) (by simp) (AllReadyH.cons rfl (fun J hJ => ?_) AllReadyH.nil)
                        go_simp
                        obtain ⟨v3, g1, hV, hg1, xr, b5⟩ := b1_new v2 HS.out.size
                        have XR := Lib.hid xr
                        have ZA : Hid (g1 < lo5 ∨ hi5 ≤ g1) := Lib.hid (.inr (by rw [← hg1]; exact XC.out.2.2))
                        replace XC := Lib.hid (XC.out.below b5)
                        have ZB : Hid (g3 ≠ g1) := Lib.hid (by have := XB.out.lt; omega)
                        replace XB := Lib.hid (XB.out.below b5)
                        replace HS := Lib.hid (HS.out.trans (b5.mono HS.out.size))
                        rw [hV, hg1]
                        clear b5 hV hg1 xr
                        refine hJ.out _ _ HS.out (fun _ => ?_)
                        clear hJ J
                        go_simp
                        refine wpAnyH_ready (rs := [8]) (by kernel_rfl) (by simp) (AllReadyH.cons rfl (fun J hJ => ?_) AllReadyH.nil)
                        refine step_append_g (by rfl) (.tmp 194) (.tmp 196) 28 (by rfl) wc.heap.size 3 i0 (.int .i64 0) 1 8 Try.underlying28 Hi0.out Hz0.out Hz1.out Hz2.out rfl (by decide) _ 0 [] rfl XR.out ⟨b, ob, none⟩ nt ct (t.map (Value.int .i64)) rfl ?a0 ?a1 ?a2 ?a3 ?a4 ?a5 ?_
                        case a0 => rw [List.length_map, Htl.out]; omega
                        case a1 => exact HTC.out _ HS.out
                        case a2 => exact map_ones t
                        case a3 => unfold maxLen; omega
                        case a4 => omega
                        case a5 => exact HS.out.size
                        intro v' v4 hown hgr hiff hat
                        obtain ⟨g2, c2, rfl, xr, hg2⟩ := a1_new hown hiff hat
                        have hc0 := XC.out.2.2
                        replace XC := Lib.hid (XC.out.grown hgr ZA.out)
                        replace ZA : Hid (g2 < lo5 ∨ hi5 ≤ g2) := Lib.hid (hg2.elim (fun h => by rw [h]; exact ZA.out) (fun h => .inr (by rw [h]; exact hc0)))
                        have hb3 := XB.out.lt
                        replace XB := Lib.hid (XB.out.grown hgr ZB.out)
                        replace ZB : Hid (g3 ≠ g2) := Lib.hid (hg2.elim (fun h => by rw [h]; exact ZB.out) (fun h => by omega))
                        clear hb3
                        replace HS := Lib.hid (HS.out.trans (own_below hgr XR.out.lt.1 HS.out.size))
                        replace XR := Lib.hid xr
                        clear hown hgr hat xr hg2 hiff hc0
                        refine hJ.out _ _ HS.out (fun _ => ?_)
                        clear hJ J
                        go_simp
                        refine wpAnyH_ready (rs := [13]) (by kernel_rfl) (by simp) (AllReadyH.cons rfl (fun J hJ => ?_) AllReadyH.nil)
                        refine step_append_g (by rfl) (.tmp 197) (.tmp 201) 28 (by rfl) wc.heap.size 3 i0 (.int .i64 0) 1 8 Try.underlying28 Hi0.out Hz0.out Hz1.out Hz2.out rfl (by decide) _ nt _ rfl XR.out ⟨g3, 0, none⟩ 1 1 [.int .i64 a] rfl rfl ?a1 ?a2 ?a3 ?a4 ?a5 ?_
                        case a1 => exact fb_cell XB.out
                        case a2 => simp [Value.oneCell']
                        case a3 => unfold maxLen; omega
                        case a4 => omega
                        case a5 => exact HS.out.size
                        intro v' v5 hown hgr _ hat
                        obtain ⟨g4, c4, rfl, xi⟩ := a2_new Htl.out hown
                        have XI := Lib.hid xi
                        replace XC := Lib.hid (XC.out.grown hgr ZA.out)
                        replace HS := Lib.hid (HS.out.trans (own_below hgr XR.out.lt.1 HS.out.size))
                        clear hown hgr hat xi XR XB ZB ZA
                        refine hJ.out _ _ HS.out (fun _ => ?_)
                        clear hJ J
                        go_simp
                        refine wpAnyH_ready (rs := [14]) (by kernel_rfl) (by simp) (AllReadyH.cons rfl (fun J hJ => ?_) AllReadyH.nil)
                        go_simp
                        refine (same_same A5 (some ⟨g4, 0, none⟩) (nt + 1) c5 c4 (t ++ [a]) _ (by rw [List.length_append, Htl.out]; rfl) (by omega) XC.out.1.ints XI.out).mono ?_
                        rintro e v6 ⟨rfl, b5⟩
                        replace HS := Lib.hid (HS.out.trans (b5.mono HS.out.size))
                        clear b5
                        refine hJ.out _ _ HS.out (fun _ => ?_)
                        clear hJ J
                        go_simp
                        refine wpAnyH_take (i := 15) (v := (.bool false)) rfl (by kernel_rfl) (by kernel_rfl) (by kernel_rfl) (fun _ _ _ h => h) (.inl ⟨rfl, fun V hS => ?y0⟩) HS.out ?_
                        case y0 =>
                          clear hS
                          go_simp
                        go_simp
                        refine wpAnyH_take (i := 16) (v := (.bool false)) rfl (by kernel_rfl) (by kernel_rfl) (by kernel_rfl) (fun _ _ _ h => h) (.inl ⟨rfl, fun V hS => ?y0⟩) HS.out ?_
                        case y0 =>
                          clear hS
                          go_simp
                        go_simp
                        refine wpAnyH_done (by kernel_rfl) ?_ _
                        go_wp2
                        go_ret
                        exact ⟨rfl, BW.out.trans (HS.out.mono BW.out.size)⟩
                      · go_simp
                        obtain ⟨v2, g1, hV, hg1, xr, b5⟩ := b1_new v1 HS.out.size
                        have XR := Lib.hid xr
                        have ZB : Hid (g3 ≠ g1) := Lib.hid (by have := XB.out.lt; omega)
                        replace XB := Lib.hid (XB.out.below b5)
                        replace HS := Lib.hid (HS.out.trans (b5.mono HS.out.size))
                        rw [hV, hg1]
                        clear b5 hV hg1 xr
                        refine hJ.out _ _ HS.out (fun _ => ?_)
                        clear hJ J
                        go_simp
                        refine wpAnyH_ready (rs := [4]) (by kernel_rfl) (by simp) (AllReadyH.cons rfl (fun J hJ => ?_) AllReadyH.nil)
                        go_simp
                        refine (HLM.out _ HS.out).mono ?_
                        rintro e v3 ⟨A5, c5, rfl, i5, b5⟩
                        obtain ⟨lo5, hi5, XC, ZA⟩ : ∃ lo hi, Hid (FCl v3 wc.heap.size lo hi A5 (t ++ [a])) ∧ Hid (g1 < lo ∨ hi ≤ g1) := ⟨_, _, Lib.hid ⟨i5, HS.out.size, Nat.le_refl _⟩, Lib.hid (.inl XR.out.lt.2)⟩
                        replace XR := Lib.hid (XR.out.below b5)
                        replace XB := Lib.hid (XB.out.below b5)
                        replace HS := Lib.hid (HS.out.trans (b5.mono HS.out.size))
                        clear b5 i5
                        refine hJ.out _ _ HS.out (fun _ => ?_)
                        clear hJ J
                        go_simp
                        refine wpAnyH_ready (rs := [8]) (by kernel_rfl) (by simp) (AllReadyH.cons rfl (fun J hJ => ?_) AllReadyH.nil)
                        refine step_append_g (by rfl) (.tmp 194) (.tmp 196) 28 (by rfl) wc.heap.size 3 i0 (.int .i64 0) 1 8 Try.underlying28 Hi0.out Hz0.out Hz1.out Hz2.out rfl (by decide) _ 0 [] rfl XR.out ⟨b, ob, none⟩ nt ct (t.map (Value.int .i64)) rfl ?a0 ?a1 ?a2 ?a3 ?a4 ?a5 ?_
                        case a0 => rw [List.length_map, Htl.out]; omega
                        case a1 => exact HTC.out _ HS.out
                        case a2 => exact map_ones t
                        case a3 => unfold maxLen; omega
                        case a4 => omega
                        case a5 => exact HS.out.size
                        intro v' v4 hown hgr hiff hat
                        obtain ⟨g2, c2, rfl, xr, hg2⟩ := a1_new hown hiff hat
                        have hc0 := XC.out.2.2
                        replace XC := Lib.hid (XC.out.grown hgr ZA.out)
                        replace ZA : Hid (g2 < lo5 ∨ hi5 ≤ g2) := Lib.hid (hg2.elim (fun h => by rw [h]; exact ZA.out) (fun h => .inr (by rw [h]; exact hc0)))
                        have hb3 := XB.out.lt
                        replace XB := Lib.hid (XB.out.grown hgr ZB.out)
                        replace ZB : Hid (g3 ≠ g2) := Lib.hid (hg2.elim (fun h => by rw [h]; exact ZB.out) (fun h => by omega))
                        clear hb3
                        replace HS := Lib.hid (HS.out.trans (own_below hgr XR.out.lt.1 HS.out.size))
                        replace XR := Lib.hid xr
                        clear hown hgr hat xr hg2 hiff hc0
                        refine hJ.out _ _ HS.out (fun _ => ?_)
                        clear hJ J
                        go_simp
                        refine wpAnyH_ready (rs := [13]) (by kernel_rfl) (by simp) (AllReadyH.cons rfl (fun J hJ => ?_) AllReadyH.nil)
                        refine step_append_g (by rfl) (.tmp 197) (.tmp 201) 28 (by rfl) wc.heap.size 3 i0 (.int .i64 0) 1 8 Try.underlying28 Hi0.out Hz0.out Hz1.out Hz2.out rfl (by decide) _ nt _ rfl XR.out ⟨g3, 0, none⟩ 1 1 [.int .i64 a] rfl rfl ?a1 ?a2 ?a3 ?a4 ?a5 ?_
                        case a1 => exact fb_cell XB.out
                        case a2 => simp [Value.oneCell']
                        case a3 => unfold maxLen; omega
                        case a4 => omega
                        case a5 => exact HS.out.size
                        intro v' v5 hown hgr _ hat
                        obtain ⟨g4, c4, rfl, xi⟩ := a2_new Htl.out hown
                        have XI := Lib.hid xi
                        replace XC := Lib.hid (XC.out.grown hgr ZA.out)
                        replace HS := Lib.hid (HS.out.trans (own_below hgr XR.out.lt.1 HS.out.size))
                        clear hown hgr hat xi XR XB ZB ZA
                        refine hJ.out _ _ HS.out (fun _ => ?_)
                        clear hJ J
                        go_simp
                        refine wpAnyH_ready (rs := [14]) (by kernel_rfl) (by simp) (AllReadyH.cons rfl (fun J hJ => ?_) AllReadyH.nil)
                        go_simp
                        refine (same_same A5 (some ⟨g4, 0, none⟩) (nt + 1) c5 c4 (t ++ [a]) _ (by rw [List.length_append, Htl.out]; rfl) (by omega) XC.out.1.ints XI.out).mono ?_
                        rintro e v6 ⟨rfl, b5⟩
                        replace HS := Lib.hid (HS.out.trans (b5.mono HS.out.size))
                        clear b5
                        refine hJ.out _ _ HS.out (fun _ => ?_)
                        clear hJ J
                        go_simp
                        refine wpAnyH_take (i := 15) (v := (.bool false)) rfl (by kernel_rfl) (by kernel_rfl) (by kernel_rfl) (fun _ _ _ h => h) (.inl ⟨rfl, fun V hS => ?y0⟩) HS.out ?_
                        case y0 =>
                          clear hS
                          go_simp
                        go_simp
                        refine wpAnyH_take (i := 16) (v := (.bool false)) rfl (by kernel_rfl) (by kernel_rfl) (by kernel_rfl) (fun _ _ _ h => h) (.inl ⟨rfl, fun V hS => ?y0⟩) HS.out ?_
                        case y0 =>
                          clear hS
                          go_simp
                        go_simp
                        refine wpAnyH_done (by kernel_rfl) ?_ _
                        go_wp2
                        go_ret
                        exact ⟨rfl, BW.out.trans (HS.out.mono BW.out.size)⟩
      · go_wp2_with fail
        as_aux_lemma =>
          have hok := St.out.ql.ok
          refine (specQueueOk_any A' 60 cq g (g + 1) f l r c ss wr St.out.ql.len (by omega) St.out.q.2.1 (by have := St.out.q.2.2.2; omega)).mono ?_
          rintro e w2 ⟨rfl, b2⟩
          rw [hok]
          clear hok y0 y1 y2 y3 y4 yf
          replace St := Lib.hid (St.out.keep b2)
          clear b2
          have hls : listA ss f l r c = L := by
            obtain ⟨us, fs, v, e9⟩ := St.out.ql
            rw [listA_val v]
            exact e9
          obtain ⟨y0, y1, y2, y3, y4, yf⟩ := St.out.q.1.cells
          have HL := Lib.hid (implList_any A' 60 cq g (g + 1) ss f l r c w2 St.out.ql.len St.out.q.2.1 (by have := St.out.q.2.2.2; omega))
          rw [hls] at HL
          clear hls
          go_wp2_with fail
          refine HL.out.mono ?_
          rintro e w3 ⟨A3, c3, rfl, v3, b3⟩
          clear HL y0 y1 y2 y3 y4 yf
          replace St := Lib.hid (St.out.keep b3)
          clear b3
          obtain ⟨y0, y1, y2, y3, y4, yf⟩ := St.out.q.1.cells
          go_wp2_with fail
          have hL9 : L.length = n' := Hnl.out
          rw [hL9]
          refine (same_same A3 (some ⟨b, off, none⟩) n' c3 cap' L w3 hL9 (by omega) v3.ints St.out.li.ints).mono ?_
          rintro e w4 ⟨rfl, b4⟩
          clear y0 y1 y2 y3 y4 yf hL9 v3
          replace St := Lib.hid (St.out.keep b4)
          clear b4
          have hc9 : c = (n' : Int) := by rw [Hcl.out, Hnl.out]
          clear Hcl
          subst hc9
          obtain ⟨y0, y1, y2, y3, y4, yf⟩ := St.out.q.1.cells
          go_wp2_with fail
          clear y0 y1 y2 y3 y4 yf
          go_loopw [17] (fun i wx => ∃ j : Nat, i = .int .i64 j ∧ j ≤ n' ∧ QSt w wx qb b off n' cap' L g ss f l r n' A' cq) (fun i _ => n' - (intOf i).toNat)
          case atStart => exact ⟨0, rfl, by omega, St.out⟩
          case round =>
            obtain ⟨j, rfl, hj, st⟩ := hrel
            clear St
            have St := Lib.hid st
            clear st
            obtain ⟨y0, y1, y2, y3, y4, yf⟩ := St.out.q.1.cells
            by_cases hjn : j < n'
            · have hj' : (j : Int) < (n' : Int) := by omega
              have hci := St.out.li.cells j hjn
              have hix : idxI (listA ss f l r n') (L.getD j 0) = (j : Int) := by
                rw [listA_ql St.out.ql]
                exact idxI_here (by have := Hnl.out; omega) (fun i hi => nodup_ne St.out.ql.nodup hi (by have := Hnl.out; omega)) rfl
              have HAh := Lib.hid (fun W (h : QSt w W qb b off n' cap' L g ss f l r n' A' cq) => implAhead_any A' 60 cq g (g + 1) ss f l r n' (L.getD j 0) W h.ql.len h.q.2.1 (by have := h.q.2.2.2; omega))
              rw [hix] at HAh
              clear hix
              generalize L.getD j 0 = z at hci HAh
              have HP : Hid (Sq qb b (off + j) (.slice A' 60 cq) (.int .i64 f) (.int .i64 l) (.int .i64 r) (.int .i64 n') z wr.drew) := Lib.hid ⟨St.out.q.1.of_block rfl, hci⟩
              replace St := Lib.hid (St.out.keep (w2 := wr.drew) (Below.refl _ _).drew)
              clear hci y0 y1 y2 y3 y4 yf
              go_wp2_with fail
              refine wp_region_held_drew (S := Sq qb b (off + j) (.slice A' 60 cq) (.int .i64 f) (.int .i64 l) (.int .i64 r) (.int .i64 n') z) (by kernel_rfl) HP.out (fun _ => ?_)
              refine wpAnyH_take (i := 0) (v := (.agg #[.slice A' 60 cq, .int .i64 f, .int .i64 l, .int .i64 r, .int .i64 n'])) rfl (by kernel_rfl) (by kernel_rfl) (by kernel_rfl) (fun _ _ _ h => h) (.inl ⟨rfl, fun V hS => ?y0⟩) (HP).out ?_
              case y0 =>
                obtain ⟨u0, u1, u2, u3, u4, uf⟩ := hS.1.cells
                have u5 := hS.2
                go_simp
              go_simp
              refine wpAnyH_take (i := 1) (v := (.slice (some ⟨b, off, none⟩) n' cap')) rfl (by kernel_rfl) (by kernel_rfl) (by kernel_rfl) (fun _ _ _ h => h) (.inl ⟨rfl, fun V hS => ?y0⟩) (HP).out ?_
              case y0 =>
                obtain ⟨u0, u1, u2, u3, u4, uf⟩ := hS.1.cells
                have u5 := hS.2
                go_simp
              go_simp
              refine wpAnyH_take (i := 2) (v := (.int .i64 j)) rfl (by kernel_rfl) (by kernel_rfl) (by kernel_rfl) (fun _ _ _ h => h) (.inl ⟨rfl, fun V hS => ?y0⟩) (HP).out ?_
              case y0 =>
                obtain ⟨u0, u1, u2, u3, u4, uf⟩ := hS.1.cells
                have u5 := hS.2
                go_simp
              go_simp
              refine wpAnyH_take (i := 3) (v := (.pointer (some ⟨b, off + j, none⟩))) rfl (by kernel_rfl) (by kernel_rfl) (by kernel_rfl) (fun _ _ _ h => h) (.inl ⟨rfl, fun V hS => ?y0⟩) (HP).out ?_
              case y0 =>
                obtain ⟨u0, u1, u2, u3, u4, uf⟩ := hS.1.cells
                have u5 := hS.2
                go_simp
              go_simp
              refine wpAnyH_take (i := 4) (v := (.int .i64 z)) rfl (by kernel_rfl) (by kernel_rfl) (by kernel_rfl) (fun _ _ _ h => h) (.inl ⟨rfl, fun V hS => ?y0⟩) (HP).out ?_
              case y0 =>
                obtain ⟨u0, u1, u2, u3, u4, uf⟩ := hS.1.cells
                have u5 := hS.2
                go_simp
              go_simp
              refine wpAnyH_take (i := 6) (v := (.int .i64 j)) rfl (by kernel_rfl) (by kernel_rfl) (by kernel_rfl) (fun _ _ _ h => h) (.inl ⟨rfl, fun V hS => ?y0⟩) (HP).out ?_
              case y0 =>
                obtain ⟨u0, u1, u2, u3, u4, uf⟩ := hS.1.cells
                have u5 := hS.2
                go_simp
              go_simp
              refine wpAnyH_ready (rs := [5]) (by kernel_rfl) (by simp) (AllReadyH.cons rfl (fun J hJ => ?_) AllReadyH.nil)
              go_simp
              refine (HAh.out _ St.out).mono ?_
              rintro e w7 ⟨rfl, b7⟩
              have HP2 := Lib.hid (HP.out.below b7)
              replace St := Lib.hid (St.out.keep b7)
              clear b7
              refine hJ.out _ _ HP2.out (fun _ => ?_)
              clear hJ J
              go_simp
              refine wpAnyH_take (i := 7) (v := (.bool false)) rfl (by kernel_rfl) (by kernel_rfl) (by kernel_rfl) (fun _ _ _ h => h) (.inl ⟨rfl, fun V hS => ?y0⟩) (HP2).out ?_
              case y0 =>
                obtain ⟨u0, u1, u2, u3, u4, uf⟩ := hS.1.cells
                have u5 := hS.2
                go_simp
              go_simp
              refine wpAnyH_done (by kernel_rfl) ?_ _
              go_wp2
              go_roundw
              case rel => exact ⟨j + 1, by go_num, by omega, St.out⟩
              case measure => simp [intOf]; omega
            · have hj' : ¬ (j : Int) < (n' : Int) := by omega
              by_cases hz : n' = 0
              · obtain rfl := hz
                go_wp2
                go_ret
                exact ⟨rfl, St.out.old⟩
              · have hz1 : (0 : Int) < (n' : Int) := by omega
                have hc0 := St.out.li.cells 0 (by omega)
                obtain ⟨a, t, hLt⟩ : ∃ a t, L = a :: t := by
                  cases hL9 : L with
                  | nil => have := Hnl.out; rw [hL9] at this; simp at this; omega
                  | cons a t => exact ⟨a, t, rfl⟩
                subst hLt
                rw [List.getD_cons_zero, Nat.add_zero] at hc0
                obtain ⟨sm, fm, lm, rm, cm, hqm, hmv⟩ := St.out.ql.move
                have HMV := Lib.hid (fun W (hb : Below wr.heap.size wr W) => implMove_any A' 60 cq g (g + 1) ss f l r n' a W St.out.ql.len (by omega) (St.out.q.2.1.below hb (by have := St.out.q.2.2.2; omega)) (by have := St.out.q.2.2.2; have := hb.size; omega))
                have HMT := Lib.hid hmv
                have HQM := Lib.hid hqm
                have Y := Lib.hid St.out.q.1
                clear hqm hmv
                have HS : Hid (Below wr.heap.size wr wr.drew) := Lib.hid (Below.refl _ _).drew
                have hbl : b < wr.heap.size := St.out.li.lt
                have hql : qb < wr.heap.size := St.out.q.1.lt
                have Hc0 := Lib.hid hc0
                go_wp2_with fail
                go_cut [18, 19] (fun p ok wx => ∃ x Am cm', p = .pointer (some ⟨x, 0, none⟩) ∧ ok = .bool true ∧ Mvd wr wx x Am cm' sm fm lm rm cm)
                case first =>
                  as_aux_lemma =>
                    clear y0 y1 y2 y3 y4 yf hc0
                    refine wp_region_held_drew (S := Below wr.heap.size wr) (by kernel_rfl) HS.out (fun _ => ?_)
                    obtain ⟨v0, hv0⟩ : ∃ W', wr.drew = W' := ⟨_, rfl⟩
                    have zz0 : wr.heap.size ≤ v0.heap.size := by rw [← hv0]; exact Nat.le_refl _
                    rw [hv0] at HS ⊢
                    clear hv0
                    refine wpAnyH_take (i := 0) (v := .agg #[.slice A' 60 cq, .int .i64 f, .int .i64 l, .int .i64 r, .int .i64 n']) rfl (by kernel_rfl) (by kernel_rfl) (by kernel_rfl) (fun _ _ _ h => h) (.inl ⟨rfl, fun V hS => ?y1⟩) HS.out ?_
                    case y1 =>
                      obtain ⟨u0, u1, u2, u3, u4, uf⟩ := (Y.out.of_block (hS.block _ hql)).cells
                      clear hS
                      go_simp
                    go_simp
                    refine wpAnyH_take (i := 1) (v := (.slice (some ⟨b, off, none⟩) n' cap')) rfl (by kernel_rfl) (by kernel_rfl) (by kernel_rfl) (fun _ _ _ h => h) (.inl ⟨rfl, fun V hS => ?y0⟩) HS.out ?_
                    case y0 =>
                      clear hS
                      go_simp
                    go_simp
                    refine wpAnyH_take (i := 2) (v := (.pointer (some ⟨b, off, none⟩))) rfl (by kernel_rfl) (by kernel_rfl) (by kernel_rfl) (fun _ _ _ h => h) (.inl ⟨rfl, fun V hS => ?y0⟩) HS.out ?_
                    case y0 =>
                      clear hS
                      go_simp
                    go_simp
                    refine wpAnyH_take (i := 3) (v := .int .i64 a) rfl (by kernel_rfl) (by kernel_rfl) (by kernel_rfl) (fun _ _ _ h => h) (.inl ⟨rfl, fun V hS => ?y2⟩) HS.out ?_
                    case y2 =>
                      have u0 := (hS.cell (p := ⟨b, off, none⟩) hbl).trans Hc0.out
                      clear hS
                      go_simp
                    go_simp
                    refine wpAnyH_ready (rs := [4, 8]) (by kernel_rfl) (by simp) (AllReadyH.cons rfl (fun J hJ => ?_) (AllReadyH.cons rfl (fun J hJ => ?_) AllReadyH.nil))
                    · go_simp
                      refine (HMV.out _ HS.out).mono ?_
                      intro e v1 hend
                      obtain ⟨A3, c3, rfl, sv, b3⟩ := HMT.out _ e v1 hend
                      have zz1 : v0.heap.size ≤ v1.heap.size := b3.size
                      replace HS := Lib.hid (HS.out.trans (b3.mono zz0))
                      clear hend b3
                      refine hJ.out _ _ HS.out (fun _ => ?_)
                      clear hJ J
                      go_simp
                      refine wpAnyH_take (i := 5) (v := (.tuple #[.agg #[.slice A3 60 c3, .int .i64 fm, .int .i64 lm, .int .i64 rm, .int .i64 cm], .bool true])) rfl (by kernel_rfl) (by kernel_rfl) (by kernel_rfl) (fun _ _ _ h => h) (.inl ⟨rfl, fun V hS => ?y0⟩) HS.out ?_
                      case y0 =>
                        clear hS
                        go_simp
                      go_simp
                      refine wpAnyH_take (i := 6) (v := (.agg #[.slice A3 60 c3, .int .i64 fm, .int .i64 lm, .int .i64 rm, .int .i64 cm])) rfl (by kernel_rfl) (by kernel_rfl) (by kernel_rfl) (fun _ _ _ h => h) (.inl ⟨rfl, fun V hS => ?y0⟩) HS.out ?_
                      case y0 =>
                        clear hS
                        go_simp
                      go_simp
                      refine wpAnyH_take (i := 7) (v := (.bool true)) rfl (by kernel_rfl) (by kernel_rfl) (by kernel_rfl) (fun _ _ _ h => h) (.inl ⟨rfl, fun V hS => ?y0⟩) HS.out ?_
                      case y0 =>
                        clear hS
                        go_simp
                      go_simp
                      refine wpAnyH_ready (rs := [8]) (by kernel_rfl) (by simp) (AllReadyH.cons rfl (fun J hJ => ?_) AllReadyH.nil)
                      go_simp
                      obtain ⟨v2, hv2⟩ : ∃ W', v1.alloc (.cells #[.slice none 0 0, .int .i64 0, .int .i64 0, .int .i64 0, .int .i64 0] 26) = W' := ⟨_, rfl⟩
                      have b2 : Below v1.heap.size v1 v2 := by rw [← hv2]; exact bel_alloc _ _
                      have G : Hid (Blk5 v2 v1.heap.size (.slice none 0 0) (.int .i64 0) (.int .i64 0) (.int .i64 0) (.int .i64 0)) := by rw [← hv2]; exact heap_alloc_new v1 _
                      have zz2 : v1.heap.size < v2.heap.size := G.out.lt
                      have SV : Hid (∃ lo hi, SlV v2 lo hi A3 sm ∧ (v1.heap.size < lo ∨ hi ≤ v1.heap.size) ∧ hi ≤ v2.heap.size ∧ wr.heap.size ≤ lo) := Lib.hid ⟨_, _, sv.below b2 (Nat.le_refl _), .inr (Nat.le_refl _), by omega, by omega⟩
                      rw [hv2]
                      replace HS := Lib.hid (HS.out.trans (b2.mono (by omega)))
                      clear hv2 b2 sv
                      refine hJ.out _ _ HS.out (fun _ => ?_)
                      clear hJ J
                      go_simp
                      refine wpAnyH_ready (rs := [9]) (by kernel_rfl) (by simp) (AllReadyH.cons rfl (fun J hJ => ?_) AllReadyH.nil)
                      obtain ⟨q0, q1, q2, q3, q4, qf⟩ := G.out.cells
                      go_simp
                      clear q0 q1 q2 q3 q4 qf
                      obtain ⟨v9, hv9⟩ : ∃ W', (((((v2).setCell ⟨(v1).heap.size, 0, none⟩ (.slice A3 60 c3)).setCell ⟨(v1).heap.size, 1, none⟩ (.int .i64 fm)).setCell ⟨(v1).heap.size, 2, none⟩ (.int .i64 lm)).setCell ⟨(v1).heap.size, 3, none⟩ (.int .i64 rm)).setCell ⟨(v1).heap.size, 4, none⟩ (.int .i64 cm) = W' := ⟨_, rfl⟩
                      have GF : Hid (Blk5 v9 (v1).heap.size (.slice A3 60 c3) (.int .i64 fm) (.int .i64 lm) (.int .i64 rm) (.int .i64 cm)) := by rw [← hv9]; exact five G.out _ _ _ _ _
                      have z9 : (v2).heap.size = v9.heap.size := by rw [← hv9]; simp [World.setCell]
                      have RF : Hid (∃ lo hi, SlV v9 lo hi A3 sm ∧ hi ≤ v9.heap.size ∧ wr.heap.size ≤ lo ∧ wr.heap.size ≤ (v1).heap.size) := by
                        obtain ⟨lo, hi, h1, h2, h3, h4⟩ := SV.out
                        refine ⟨lo, hi, h1.of_block (fun k k1 k2 => ?_), by omega, h4, by omega⟩
                        have hne : k ≠ (v1).heap.size := by omega
                        rw [← hv9]
                        rw [heap_setCell_other _ _ _ _ hne, heap_setCell_other _ _ _ _ hne, heap_setCell_other _ _ _ _ hne, heap_setCell_other _ _ _ _ hne, heap_setCell_other _ _ _ _ hne]
                      replace HS : Hid (Below wr.heap.size wr v9) := by rw [← hv9]; exact ((((HS.out.setCell (by show wr.heap.size ≤ (v1).heap.size; omega) _).setCell (by show wr.heap.size ≤ (v1).heap.size; omega) _).setCell (by show wr.heap.size ≤ (v1).heap.size; omega) _).setCell (by show wr.heap.size ≤ (v1).heap.size; omega) _).setCell (by show wr.heap.size ≤ (v1).heap.size; omega) _
                      rw [hv9]
                      clear hv9
                      refine hJ.out _ _ HS.out (fun _ => ?_)
                      clear hJ J
                      go_simp
                      refine wpAnyH_take (i := (10)) (v := ((.bool true))) rfl (by kernel_rfl) (by kernel_rfl) (by kernel_rfl) (fun _ _ _ h => h) (.inl ⟨rfl, fun V hS => ?y0⟩) HS.out ?_
                      case y0 =>
                        clear hS
                        go_simp
                      go_simp
                      refine wpAnyH_done (by kernel_rfl) ?_ _
                      go_wp2
                      go_meet
                      exact ⟨(v1).heap.size, A3, c3, rfl, rfl, GF.out, RF.out, HS.out⟩
                    · go_simp
                      obtain ⟨v1, hv1⟩ : ∃ W', v0.alloc (.cells #[.slice none 0 0, .int .i64 0, .int .i64 0, .int .i64 0, .int .i64 0] 26) = W' := ⟨_, rfl⟩
                      have b1 : Below v0.heap.size v0 v1 := by rw [← hv1]; exact bel_alloc _ _
                      have G : Hid (Blk5 v1 v0.heap.size (.slice none 0 0) (.int .i64 0) (.int .i64 0) (.int .i64 0) (.int .i64 0)) := by rw [← hv1]; exact heap_alloc_new v0 _
                      have zz1 : v0.heap.size < v1.heap.size := G.out.lt
                      rw [hv1]
                      replace HS := Lib.hid (HS.out.trans (b1.mono zz0))
                      clear hv1 b1
                      refine hJ.out _ _ HS.out (fun _ => ?_)
                      clear hJ J
                      go_simp
                      refine wpAnyH_ready (rs := [4]) (by kernel_rfl) (by simp) (AllReadyH.cons rfl (fun J hJ => ?_) AllReadyH.nil)
                      go_simp
                      refine (HMV.out _ HS.out).mono ?_
                      intro e v2 hend
                      obtain ⟨A3, c3, rfl, sv, b3⟩ := HMT.out _ e v2 hend
                      have zz2 : v1.heap.size ≤ v2.heap.size := b3.size
                      have SV : Hid (∃ lo hi, SlV v2 lo hi A3 sm ∧ (v0.heap.size < lo ∨ hi ≤ v0.heap.size) ∧ hi ≤ v2.heap.size ∧ wr.heap.size ≤ lo) := Lib.hid ⟨_, _, sv, .inl zz1, Nat.le_refl _, by omega⟩
                      replace G := Lib.hid (G.out.of_block (b3.block _ zz1))
                      replace HS := Lib.hid (HS.out.trans (b3.mono (by omega)))
                      clear hend b3 sv
                      refine hJ.out _ _ HS.out (fun _ => ?_)
                      clear hJ J
                      go_simp
                      refine wpAnyH_take (i := 5) (v := (.tuple #[.agg #[.slice A3 60 c3, .int .i64 fm, .int .i64 lm, .int .i64 rm, .int .i64 cm], .bool true])) rfl (by kernel_rfl) (by kernel_rfl) (by kernel_rfl) (fun _ _ _ h => h) (.inl ⟨rfl, fun V hS => ?y0⟩) HS.out ?_
                      case y0 =>
                        clear hS
                        go_simp
                      go_simp
                      refine wpAnyH_take (i := 6) (v := (.agg #[.slice A3 60 c3, .int .i64 fm, .int .i64 lm, .int .i64 rm, .int .i64 cm])) rfl (by kernel_rfl) (by kernel_rfl) (by kernel_rfl) (fun _ _ _ h => h) (.inl ⟨rfl, fun V hS => ?y0⟩) HS.out ?_
                      case y0 =>
                        clear hS
                        go_simp
                      go_simp
                      refine wpAnyH_take (i := 7) (v := (.bool true)) rfl (by kernel_rfl) (by kernel_rfl) (by kernel_rfl) (fun _ _ _ h => h) (.inl ⟨rfl, fun V hS => ?y0⟩) HS.out ?_
                      case y0 =>
                        clear hS
                        go_simp
                      go_simp
                      refine wpAnyH_ready (rs := [9]) (by kernel_rfl) (by simp) (AllReadyH.cons rfl (fun J hJ => ?_) AllReadyH.nil)
                      obtain ⟨q0, q1, q2, q3, q4, qf⟩ := G.out.cells
                      go_simp
                      clear q0 q1 q2 q3 q4 qf
                      obtain ⟨v9, hv9⟩ : ∃ W', (((((v2).setCell ⟨(v0).heap.size, 0, none⟩ (.slice A3 60 c3)).setCell ⟨(v0).heap.size, 1, none⟩ (.int .i64 fm)).setCell ⟨(v0).heap.size, 2, none⟩ (.int .i64 lm)).setCell ⟨(v0).heap.size, 3, none⟩ (.int .i64 rm)).setCell ⟨(v0).heap.size, 4, none⟩ (.int .i64 cm) = W' := ⟨_, rfl⟩
                      have GF : Hid (Blk5 v9 (v0).heap.size (.slice A3 60 c3) (.int .i64 fm) (.int .i64 lm) (.int .i64 rm) (.int .i64 cm)) := by rw [← hv9]; exact five G.out _ _ _ _ _
                      have z9 : (v2).heap.size = v9.heap.size := by rw [← hv9]; simp [World.setCell]
                      have RF : Hid (∃ lo hi, SlV v9 lo hi A3 sm ∧ hi ≤ v9.heap.size ∧ wr.heap.size ≤ lo ∧ wr.heap.size ≤ (v0).heap.size) := by
                        obtain ⟨lo, hi, h1, h2, h3, h4⟩ := SV.out
                        refine ⟨lo, hi, h1.of_block (fun k k1 k2 => ?_), by omega, h4, by omega⟩
                        have hne : k ≠ (v0).heap.size := by omega
                        rw [← hv9]
                        rw [heap_setCell_other _ _ _ _ hne, heap_setCell_other _ _ _ _ hne, heap_setCell_other _ _ _ _ hne, heap_setCell_other _ _ _ _ hne, heap_setCell_other _ _ _ _ hne]
                      replace HS : Hid (Below wr.heap.size wr v9) := by rw [← hv9]; exact ((((HS.out.setCell (by show wr.heap.size ≤ (v0).heap.size; omega) _).setCell (by show wr.heap.size ≤ (v0).heap.size; omega) _).setCell (by show wr.heap.size ≤ (v0).heap.size; omega) _).setCell (by show wr.heap.size ≤ (v0).heap.size; omega) _).setCell (by show wr.heap.size ≤ (v0).heap.size; omega) _
                      rw [hv9]
                      clear hv9
                      refine hJ.out _ _ HS.out (fun _ => ?_)
                      clear hJ J
                      go_simp
                      refine wpAnyH_take (i := (10)) (v := ((.bool true))) rfl (by kernel_rfl) (by kernel_rfl) (by kernel_rfl) (fun _ _ _ h => h) (.inl ⟨rfl, fun V hS => ?y0⟩) HS.out ?_
                      case y0 =>
                        clear hS
                        go_simp
                      go_simp
                      refine wpAnyH_done (by kernel_rfl) ?_ _
                      go_wp2
                      go_meet
                      exact ⟨(v0).heap.size, A3, c3, rfl, rfl, GF.out, RF.out, HS.out⟩
                case rest =>
                  as_aux_lemma =>
                    obtain ⟨x, Am, cm', rfl, rfl, hM⟩ := hcut
                    have XM := Lib.hid hM.1
                    have hxl : x < wc.heap.size := hM.1.lt
                    have BW := Lib.hid (St.out.old.trans (hM.2.2.mono St.out.old.size))
                    have Lc := Lib.hid (St.out.li.below hM.2.2 St.out.li.lt)
                    have HLM : Hid (∀ W, Below wc.heap.size wc W → Calls Try.prog 23 #[.agg #[.slice Am 60 cm', .int .i64 fm, .int .i64 lm, .int .i64 rm, .int .i64 cm]] W fun e w' => ∃ A5 c5, e = .returned (.slice A5 (t.length + 1) c5) ∧ IV w' W.heap.size w'.heap.size A5 (t ++ [a]) ∧ Below W.heap.size W w') := Lib.hid (fun W hb => by
                      obtain ⟨lo, hi, h1, h2, _⟩ := hM.2.1
                      have h := implList_any Am 60 cm' lo hi sm fm lm rm cm W HQM.out.len (h1.below hb h2) (Nat.le_trans h2 hb.size)
                      rw [listA_ql HQM.out] at h
                      exact h.mono fun e w' ⟨A5, c5, he, hi5, hb5⟩ => ⟨A5, c5, by rw [he, List.length_append]; rfl, hi5, hb5⟩)
                    obtain ⟨nt, hnt⟩ : ∃ nt, t.length = nt := ⟨_, rfl⟩
                    have hn1 : n' = nt + 1 := by have := Hnl.out; simp at this; omega
                    obtain ⟨ob, hob, HTC⟩ : ∃ ob, (if cap' = 1 then some (⟨b, off, none⟩ : Addr) else some ⟨b, off + 1, none⟩) = some ⟨b, ob, none⟩ ∧ Hid (∀ W, Below wc.heap.size wc W → ∀ j u, (t.map (Value.int .i64))[j]? = some u → W.cell? ((⟨b, ob, none⟩ : Addr).add j) = some u) := by
                      by_cases h1 : cap' = 1
                      · refine ⟨off, if_pos h1, Lib.hid (fun W _ j u hj => ?_)⟩
                        have : t = [] := List.eq_nil_of_length_eq_zero (by omega)
                        rw [this] at hj
                        simp at hj
                      · refine ⟨off + 1, if_neg h1, Lib.hid (fun W hb j u hj => ?_)⟩
                        have hjl : j < t.length := by have := (List.getElem?_eq_some_iff.1 hj).1; simpa using this
                        have hc := (hb.cell (p := ⟨b, off + (j + 1), none⟩) Lc.out.lt).trans (Lc.out.cells (j + 1) (by omega))
                        rw [List.getD_cons_succ, List.getD_eq_getElem?_getD, List.getElem?_eq_getElem hjl] at hc
                        have ea : (⟨b, off + 1, none⟩ : Addr).add j = ⟨b, off + (j + 1), none⟩ := by
                          unfold Addr.add; split
                          · next h => subst h; rfl
                          · simp; omega
                        rw [ea, hc]
                        rw [List.getElem?_map, List.getElem?_eq_getElem hjl] at hj
                        exact hj
                    have Hca := Lib.hid ((hM.2.2.cell (p := ⟨b, off, none⟩) hbl).trans Hc0.out)
                    have hblc : b < wc.heap.size := Lc.out.lt
                    have Htl := Lib.hid hnt
                    rw [hnt] at HLM
                    have HOB := Lib.hid hob
                    obtain ⟨ct, hct⟩ : ∃ ct, cap' - 1 = ct := ⟨_, rfl⟩
                    have hc1 : 1 ≤ cap' := by omega
                    obtain ⟨i0, hi0, hz0, hz1', hz2⟩ := info_parts infoInt
                    have Hi0 := Lib.hid hi0
                    have Hz0 := Lib.hid hz0
                    have Hz1 := Lib.hid hz1'
                    have Hz2 := Lib.hid hz2
                    clear hi0 hz0 hz1' hz2 hM HMV HMT HQM Y HS Hc0 hnt hob
                    subst hn1
                    have HS : Hid (Below wc.heap.size wc wc.drew) := Lib.hid (Below.refl _ _).drew
                    go_wp2_with fail
                    refine wp_region_held_drew (S := Below wc.heap.size wc) (by kernel_rfl) HS.out (fun _ => ?_)
                    obtain ⟨v0, hv0⟩ : ∃ W', wc.drew = W' := ⟨_, rfl⟩
                    rw [hv0] at HS ⊢
                    clear hv0
                    refine wpAnyH_take (i := 0) (v := (.bool true)) rfl (by kernel_rfl) (by kernel_rfl) (by kernel_rfl) (fun _ _ _ h => h) (.inl ⟨rfl, fun V hS => ?y0⟩) HS.out ?_
                    case y0 =>
                      clear hS
                      go_simp
                    go_simp
                    refine wpAnyH_take (i := 1) (v := (.bool false)) rfl (by kernel_rfl) (by kernel_rfl) (by kernel_rfl) (fun _ _ _ h => h) (.inl ⟨rfl, fun V hS => ?y0⟩) HS.out ?_
                    case y0 =>
                      clear hS
                      go_simp
                    go_simp
                    refine wpAnyH_take (i := 2) (v := (.bool false)) rfl (by kernel_rfl) (by kernel_rfl) (by kernel_rfl) (fun _ _ _ h => h) (.inl ⟨rfl, fun V hS => ?y0⟩) HS.out ?_
                    case y0 =>
                      clear hS
                      go_simp
                    go_simp
                    refine wpAnyH_take (i := 3) (v := .agg #[.slice Am 60 cm', .int .i64 fm, .int .i64 lm, .int .i64 rm, .int .i64 cm]) rfl (by kernel_rfl) (by kernel_rfl) (by kernel_rfl) (fun _ _ _ h => h) (.inl ⟨rfl, fun V hS => ?y1⟩) HS.out ?_
                    case y1 =>
                      obtain ⟨u0, u1, u2, u3, u4, uf⟩ := (XM.out.of_block (hS.block _ hxl)).cells
                      clear hS
                      go_simp
                    go_simp
                    refine wpAnyH_take (i := 6) (v := (.slice (some ⟨b, off, none⟩) (nt + 1) cap')) rfl (by kernel_rfl) (by kernel_rfl) (by kernel_rfl) (fun _ _ _ h => h) (.inl ⟨rfl, fun V hS => ?y0⟩) HS.out ?_
                    case y0 =>
                      clear hS
                      go_simp
                    go_simp
                    refine wpAnyH_take (i := 7) (v := .slice (some ⟨b, ob, none⟩) nt ct) rfl (by kernel_rfl) (by kernel_rfl) (by kernel_rfl) (fun _ _ _ h => h) (.inl ⟨rfl, fun V hS => ?y3⟩) HS.out ?_
                    case y3 =>
                      have hob := HOB.out
                      have h91 : ¬ (nt : Int) + 1 < 1 := by omega
                      have h92 : (1 : Int) ≤ (nt : Int) + 1 := by omega
                      clear hS
                      go_simp
                    go_simp
                    refine wpAnyH_take (i := 9) (v := (.slice (some ⟨b, off, none⟩) (nt + 1) cap')) rfl (by kernel_rfl) (by kernel_rfl) (by kernel_rfl) (fun _ _ _ h => h) (.inl ⟨rfl, fun V hS => ?y0⟩) HS.out ?_
                    case y0 =>
                      clear hS
                      go_simp
                    go_simp
                    refine wpAnyH_take (i := 10) (v := (.pointer (some ⟨b, off, none⟩))) rfl (by kernel_rfl) (by kernel_rfl) (by kernel_rfl) (fun _ _ _ h => h) (.inl ⟨rfl, fun V hS => ?y0⟩) HS.out ?_
                    case y0 =>
                      clear hS
                      go_simp
                    go_simp
                    refine wpAnyH_take (i := 11) (v := .int .i64 a) rfl (by kernel_rfl) (by kernel_rfl) (by kernel_rfl) (fun _ _ _ h => h) (.inl ⟨rfl, fun V hS => ?y2⟩) HS.out ?_
                    case y2 =>
                      have u0 := (hS.cell (p := ⟨b, off, none⟩) hblc).trans Hca.out
                      clear hS
                      go_simp
                    go_simp
                    refine wpAnyH_ready (rs := [4, 5, 12]) (by kernel_rfl) (by simp) (AllReadyH.cons rfl (fun J hJ => ?_) (AllReadyH.cons rfl (fun J hJ => ?_) (AllReadyH.cons rfl (fun J hJ => ?_) AllReadyH.nil)))
                    · go_simp
                      refine (HLM.out _ HS.out).mono ?_
                      rintro e v1 ⟨A5, c5, rfl, i5, b5⟩
                      obtain ⟨lo5, hi5, XC⟩ : ∃ lo hi, Hid (FCl v1 wc.heap.size lo hi A5 (t ++ [a])) := ⟨_, _, Lib.hid ⟨i5, HS.out.size, Nat.le_refl _⟩⟩
                      replace HS := Lib.hid (HS.out.trans (b5.mono HS.out.size))
                      clear b5 i5
                      refine hJ.out _ _ HS.out (fun _ => ?_)
                      clear hJ J
                      go_simp
                      refine wpAnyH_ready (rs := [5, 12]) (by kernel_rfl) (by simp) (AllReadyH.cons rfl (fun J hJ => ?_) (AllReadyH.cons rfl (fun J hJ => ?_) AllReadyH.nil))
                      · go_simp
                        obtain ⟨v2, g1, hV, hg1, xr, b5⟩ := b1_new v1 HS.out.size
                        have XR := Lib.hid xr
                        have ZA : Hid (g1 < lo5 ∨ hi5 ≤ g1) := Lib.hid (.inr (by rw [← hg1]; exact XC.out.2.2))
                        replace XC := Lib.hid (XC.out.below b5)
                        replace HS := Lib.hid (HS.out.trans (b5.mono HS.out.size))
                        rw [hV, hg1]
                        clear b5 hV hg1 xr
                        refine hJ.out _ _ HS.out (fun _ => ?_)
                        clear hJ J
                        go_simp
                        refine wpAnyH_ready (rs := [8, 12]) (by kernel_rfl) (by simp) (AllReadyH.cons rfl (fun J hJ => ?_) (AllReadyH.cons rfl (fun J hJ => ?_) AllReadyH.nil))
                        · refine step_append_g (by rfl) (.tmp 194) (.tmp 196) 28 (by rfl) wc.heap.size 3 i0 (.int .i64 0) 1 8 Try.underlying28 Hi0.out Hz0.out Hz1.out Hz2.out rfl (by decide) _ 0 [] rfl XR.out ⟨b, ob, none⟩ nt ct (t.map (Value.int .i64)) rfl ?a0 ?a1 ?a2 ?a3 ?a4 ?a5 ?_
                          case a0 => rw [List.length_map, Htl.out]; omega
                          case a1 => exact HTC.out _ HS.out
                          case a2 => exact map_ones t
                          case a3 => unfold maxLen; omega
                          case a4 => omega
                          case a5 => exact HS.out.size
                          intro v' v3 hown hgr hiff hat
                          obtain ⟨g2, c2, rfl, xr, hg2⟩ := a1_new hown hiff hat
                          have hc0 := XC.out.2.2
                          replace XC := Lib.hid (XC.out.grown hgr ZA.out)
                          replace ZA : Hid (g2 < lo5 ∨ hi5 ≤ g2) := Lib.hid (hg2.elim (fun h => by rw [h]; exact ZA.out) (fun h => .inr (by rw [h]; exact hc0)))
                          replace HS := Lib.hid (HS.out.trans (own_below hgr XR.out.lt.1 HS.out.size))
                          replace XR := Lib.hid xr
                          clear hown hgr hat xr hg2 hiff hc0
                          refine hJ.out _ _ HS.out (fun _ => ?_)
                          clear hJ J
                          go_simp
                          refine wpAnyH_ready (rs := [12]) (by kernel_rfl) (by simp) (AllReadyH.cons rfl (fun J hJ => ?_) AllReadyH.nil)
                          go_simp
                          obtain ⟨v4, g3, hV, hg3, xb, b5⟩ := b2_new v3 a
                          have XB := Lib.hid xb
                          have ZB : Hid (g3 ≠ g2) := Lib.hid (by have := XR.out.lt.2; omega)
                          replace XC := Lib.hid (XC.out.below b5)
                          replace XR := Lib.hid (XR.out.below b5)
                          replace HS := Lib.hid (HS.out.trans (b5.mono HS.out.size))
                          rw [hV, hg3]
                          clear b5 hV hg3 xb
                          refine hJ.out _ _ HS.out (fun _ => ?_)
                          clear hJ J
                          go_simp
                          refine wpAnyH_ready (rs := [13]) (by kernel_rfl) (by simp) (AllReadyH.cons rfl (fun J hJ => ?_) AllReadyH.nil)
                          refine step_append_g (by rfl) (.tmp 197) (.tmp 201) 28 (by rfl) wc.heap.size 3 i0 (.int .i64 0) 1 8 Try.underlying28 Hi0.out Hz0.out Hz1.out Hz2.out rfl (by decide) _ nt _ rfl XR.out ⟨g3, 0, none⟩ 1 1 [.int .i64 a] rfl rfl ?a1 ?a2 ?a3 ?a4 ?a5 ?_
                          case a1 => exact fb_cell XB.out
                          case a2 => simp [Value.oneCell']
                          case a3 => unfold maxLen; omega
                          case a4 => omega
                          case a5 => exact HS.out.size
                          intro v' v5 hown hgr _ hat
                          obtain ⟨g4, c4, rfl, xi⟩ := a2_new Htl.out hown
                          have XI := Lib.hid xi
                          replace XC := Lib.hid (XC.out.grown hgr ZA.out)
                          replace HS := Lib.hid (HS.out.trans (own_below hgr XR.out.lt.1 HS.out.size))
                          clear hown hgr hat xi XR XB ZB ZA
                          refine hJ.out _ _ HS.out (fun _ => ?_)
                          clear hJ J
                          go_simp
                          refine wpAnyH_ready (rs := [14]) (by kernel_rfl) (by simp) (AllReadyH.cons rfl (fun J hJ => ?_) AllReadyH.nil)
                          go_simp
                          refine (same_same A5 (some ⟨g4, 0, none⟩) (nt + 1) c5 c4 (t ++ [a]) _ (by rw [List.length_append, Htl.out]; rfl) (by omega) XC.out.1.ints XI.out).mono ?_
                          rintro e v6 ⟨rfl, b5⟩
                          replace HS := Lib.hid (HS.out.trans (b5.mono HS.out.size))
                          clear b5
                          refine hJ.out _ _ HS.out (fun _ => ?_)
                          clear hJ J
                          go_simp
                          refine wpAnyH_take (i := 15) (v := (.bool false)) rfl (by kernel_rfl) (by kernel_rfl) (by kernel_rfl) (fun _ _ _ h => h) (.inl ⟨rfl, fun V hS => ?y0⟩) HS.out ?_
                          case y0 =>
                            clear hS
                            go_simp
                          go_simp
                          refine wpAnyH_take (i := 16) (v := (.bool false)) rfl (by kernel_rfl) (by kernel_rfl) (by kernel_rfl) (fun _ _ _ h => h) (.inl ⟨rfl, fun V hS => ?y0⟩) HS.out ?_
                          case y0 =>
                            clear hS
                            go_simp
                          go_simp
                          refine wpAnyH_done (by kernel_rfl) ?_ _
                          go_wp2
                          go_ret
                          exact ⟨rfl, BW.out.trans (HS.out.mono BW.out.size)⟩
                        · go_simp
                          obtain ⟨v3, g3, hV, hg3, xb, b5⟩ := b2_new v2 a
                          have XB := Lib.hid xb
                          have ZB : Hid (g3 ≠ g1) := Lib.hid (by have := XR.out.lt.2; omega)
                          replace XC := Lib.hid (XC.out.below b5)
                          replace XR := Lib.hid (XR.out.below b5)
                          replace HS := Lib.hid (HS.out.trans (b5.mono HS.out.size))
                          rw [hV, hg3]
                          clear b5 hV hg3 xb
                          refine hJ.out _ _ HS.out (fun _ => ?_)
                          clear hJ J
                          go_simp
                          refine wpAnyH_ready (rs := [8]) (by kernel_rfl) (by simp) (AllReadyH.cons rfl (fun J hJ => ?_) AllReadyH.nil)
                          refine step_append_g (by rfl) (.tmp 194) (.tmp 196) 28 (by rfl) wc.heap.size 3 i0 (.int .i64 0) 1 8 Try.underlying28 Hi0.out Hz0.out Hz1.out Hz2.out rfl (by decide) _ 0 [] rfl XR.out ⟨b, ob, none⟩ nt ct (t.map (Value.int .i64)) rfl ?a0 ?a1 ?a2 ?a3 ?a4 ?a5 ?_
                          case a0 => rw [List.length_map, Htl.out]; omega
                          case a1 => exact HTC.out _ HS.out
                          case a2 => exact map_ones t
                          case a3 => unfold maxLen; omega
                          case a4 => omega
                          case a5 => exact HS.out.size
                          intro v' v4 hown hgr hiff hat
                          obtain ⟨g2, c2, rfl, xr, hg2⟩ := a1_new hown hiff hat
                          have hc0 := XC.out.2.2
                          replace XC := Lib.hid (XC.out.grown hgr ZA.out)
                          replace ZA : Hid (g2 < lo5 ∨ hi5 ≤ g2) := Lib.hid (hg2.elim (fun h => by rw [h]; exact ZA.out) (fun h => .inr (by rw [h]; exact hc0)))
                          have hb3 := XB.out.lt
                          replace XB := Lib.hid (XB.out.grown hgr ZB.out)
                          replace ZB : Hid (g3 ≠ g2) := Lib.hid (hg2.elim (fun h => by rw [h]; exact ZB.out) (fun h => by omega))
                          clear hb3
                          replace HS := Lib.hid (HS.out.trans (own_below hgr XR.out.lt.1 HS.out.size))
                          replace XR := Lib.hid xr
                          clear hown hgr hat xr hg2 hiff hc0
                          refine hJ.out _ _ HS.out (fun _ => ?_)
                          clear hJ J
                          go_simp
                          refine wpAnyH_ready (rs := [13]) (by kernel_rfl) (by simp) (AllReadyH.cons rfl (fun J hJ => ?_) AllReadyH.nil)
                          refine step_append_g (by rfl) (.tmp 197) (.tmp 201) 28 (by rfl) wc.heap.size 3 i0 (.int .i64 0) 1 8 Try.underlying28 Hi0.out Hz0.out Hz1.out Hz2.out rfl (by decide) _ nt _ rfl XR.out ⟨g3, 0, none⟩ 1 1 [.int .i64 a] rfl rfl ?a1 ?a2 ?a3 ?a4 ?a5 ?_
                          case a1 => exact fb_cell XB.out
                          case a2 => simp [Value.oneCell']
                          case a3 => unfold maxLen; omega
                          case a4 => omega
                          case a5 => exact HS.out.size
                          intro v' v5 hown hgr _ hat
                          obtain ⟨g4, c4, rfl, xi⟩ := a2_new Htl.out hown
                          have XI := Lib.hid xi
                          replace XC := Lib.hid (XC.out.grown hgr ZA.out)
                          replace HS := Lib.hid (HS.out.trans (own_below hgr XR.out.lt.1 HS.out.size))
                          clear hown hgr hat xi XR XB ZB ZA
                          refine hJ.out _ _ HS.out (fun _ => ?_)
                          clear hJ J
                          go_simp
                          refine wpAnyH_ready (rs := [14]) (by kernel_rfl) (by simp) (AllReadyH.cons rfl (fun J hJ => ?_) AllReadyH.nil)
                          go_simp
                          refine (same_same A5 (some ⟨g4, 0, none⟩) (nt + 1) c5 c4 (t ++ [a]) _ (by rw [List.length_append, Htl.out]; rfl) (by omega) XC.out.1.ints XI.out).mono ?_
                          rintro e v6 ⟨rfl, b5⟩
                          replace HS := Lib.hid (HS.out.trans (b5.mono HS.out.size))
                          clear b5
                          refine hJ.out _ _ HS.out (fun _ => ?_)
                          clear hJ J
                          go_simp
                          refine wpAnyH_take (i := 15) (v := (.bool false)) rfl (by kernel_rfl) (by kernel_rfl) (by kernel_rfl) (fun _ _ _ h => h) (.inl ⟨rfl, fun V hS => ?y0⟩) HS.out ?_
                          case y0 =>
                            clear hS
                            go_simp
                          go_simp
                          refine wpAnyH_take (i := 16) (v := (.bool false)) rfl (by kernel_rfl) (by kernel_rfl) (by kernel_rfl) (fun _ _ _ h => h) (.inl ⟨rfl, fun V hS => ?y0⟩) HS.out ?_
                          case y0 =>
                            clear hS
                            go_simp
                          go_simp
                          refine wpAnyH_done (by kernel_rfl) ?_ _
                          go_wp2
                          go_ret
                          exact ⟨rfl, BW.out.trans (HS.out.mono BW.out.size)⟩
                      · go_simp
                        obtain ⟨v2, g3, hV, hg3, xb, b5⟩ := b2_new v1 a
                        have XB := Lib.hid xb
                        replace XC := Lib.hid (XC.out.below b5)
                        replace HS := Lib.hid (HS.out.trans (b5.mono HS.out.size))
                        rw [hV, hg3]
                        clear b5 hV hg3 xb
                        refine hJ.out _ _ HS.out (fun _ => ?_)
                        clear hJ J
                        go_simp
                        refine wpAnyH_ready (rs := [5]) (by kernel_rfl) (by simp) (AllReadyH.cons rfl (fun J hJ => ?_) AllReadyH.nil)
                        go_simp
                        obtain ⟨v3, g1, hV, hg1, xr, b5⟩ := b1_new v2 HS.out.size
                        have XR := Lib.hid xr
                        have ZA : Hid (g1 < lo5 ∨ hi5 ≤ g1) := Lib.hid (.inr (by rw [← hg1]; exact XC.out.2.2))
                        replace XC := Lib.hid (XC.out.below b5)
                        have ZB : Hid (g3 ≠ g1) := Lib.hid (by have := XB.out.lt; omega)
                        replace XB := Lib.hid (XB.out.below b5)
                        replace HS := Lib.hid (HS.out.trans (b5.mono HS.out.size))
                        rw [hV, hg1]
                        clear b5 hV hg1 xr
                        refine hJ.out _ _ HS.out (fun _ => ?_)
                        clear hJ J
                        go_simp
                        refine wpAnyH_ready (rs := [8]) (by kernel_rfl) (by simp) (AllReadyH.cons rfl (fun J hJ => ?_) AllReadyH.nil)
                        refine step_append_g (by rfl) (.tmp 194) (.tmp 196) 28 (by rfl) wc.heap.size 3 i0 (.int .i64 0) 1 8 Try.underlying28 Hi0.out Hz0.out Hz1.out Hz2.out rfl (by decide) _ 0 [] rfl XR.out ⟨b, ob, none⟩ nt ct (t.map (Value.int .i64)) rfl ?a0 ?a1 ?a2 ?a3 ?a4 ?a5 ?_
                        case a0 => rw [List.length_map, Htl.out]; omega
                        case a1 => exact HTC.out _ HS.out
                        case a2 => exact map_ones t
                        case a3 => unfold maxLen; omega
                        case a4 => omega
                        case a5 => exact HS.out.size
                        intro v' v4 hown hgr hiff hat
                        obtain ⟨g2, c2, rfl, xr, hg2⟩ := a1_new hown hiff hat
                        have hc0 := XC.out.2.2
                        replace XC := Lib.hid (XC.out.grown hgr ZA.out)
                        replace ZA : Hid (g2 < lo5 ∨ hi5 ≤ g2) := Lib.hid (hg2.elim (fun h => by rw [h]; exact ZA.out) (fun h => .inr (by rw [h]; exact hc0)))
                        have hb3 := XB.out.lt
                        replace XB := Lib.hid (XB.out.grown hgr ZB.out)
                        replace ZB : Hid (g3 ≠ g2) := Lib.hid (hg2.elim (fun h => by rw [h]; exact ZB.out) (fun h => by omega))
                        clear hb3
                        replace HS := Lib.hid (HS.out.trans (own_below hgr XR.out.lt.1 HS.out.size))
                        replace XR := Lib.hid xr
                        clear hown hgr hat xr hg2 hiff hc0
                        refine hJ.out _ _ HS.out (fun _ => ?_)
                        clear hJ J
                        go_simp
                        refine wpAnyH_ready (rs := [13]) (by kernel_rfl) (by simp) (AllReadyH.cons rfl (fun J hJ => ?_) AllReadyH.nil)
                        refine step_append_g (by rfl) (.tmp 197) (.tmp 201) 28 (by rfl) wc.heap.size 3 i0 (.int .i64 0) 1 8 Try.underlying28 Hi0.out Hz0.out Hz1.out Hz2.out rfl (by decide) _ nt _ rfl XR.out ⟨g3, 0, none⟩ 1 1 [.int .i64 a] rfl rfl ?a1 ?a2 ?a3 ?a4 ?a5 ?_
                        case a1 => exact fb_cell XB.out
                        case a2 => simp [Value.oneCell']
                        case a3 => unfold maxLen; omega
                        case a4 => omega
                        case a5 => exact HS.out.size
                        intro v' v5 hown hgr _ hat
                        obtain ⟨g4, c4, rfl, xi⟩ := a2_new Htl.out hown
                        have XI := Lib.hid xi
                        replace XC := Lib.hid (XC.out.grown hgr ZA.out)
                        replace HS := Lib.hid (HS.out.trans (own_below hgr XR.out.lt.1 HS.out.size))
                        clear hown hgr hat xi XR XB ZB ZA
                        refine hJ.out _ _ HS.out (fun _ => ?_)
                        clear hJ J
                        go_simp
                        refine wpAnyH_ready (rs := [14]) (by kernel_rfl) (by simp) (AllReadyH.cons rfl (fun J hJ => ?_) AllReadyH.nil)
                        go_simp
                        refine (same_same A5 (some ⟨g4, 0, none⟩) (nt + 1) c5 c4 (t ++ [a]) _ (by rw [List.length_append, Htl.out]; rfl) (by omega) XC.out.1.ints XI.out).mono ?_
                        rintro e v6 ⟨rfl, b5⟩
                        replace HS := Lib.hid (HS.out.trans (b5.mono HS.out.size))
                        clear b5
                        refine hJ.out _ _ HS.out (fun _ => ?_)
                        clear hJ J
                        go_simp
                        refine wpAnyH_take (i := 15) (v := (.bool false)) rfl (by kernel_rfl) (by kernel_rfl) (by kernel_rfl) (fun _ _ _ h => h) (.inl ⟨rfl, fun V hS => ?y0⟩) HS.out ?_
                        case y0 =>
                          clear hS
                          go_simp
                        go_simp
                        refine wpAnyH_take (i := 16) (v := (.bool false)) rfl (by kernel_rfl) (by kernel_rfl) (by kernel_rfl) (fun _ _ _ h => h) (.inl ⟨rfl, fun V hS => ?y0⟩) HS.out ?_
                        case y0 =>
                          clear hS
                          go_simp
                        go_simp
                        refine wpAnyH_done (by kernel_rfl) ?_ _
                        go_wp2
                        go_ret
                        exact ⟨rfl, BW.out.trans (HS.out.mono BW.out.size)⟩
                    · go_simp
                      obtain ⟨v1, g1, hV, hg1, xr, b5⟩ := b1_new v0 HS.out.size
                      have XR := Lib.hid xr
                      replace HS := Lib.hid (HS.out.trans (b5.mono HS.out.size))
                      rw [hV, hg1]
                      clear b5 hV hg1 xr
                      refine hJ.out _ _ HS.out (fun _ => ?_)
                      clear hJ J
                      go_simp
                      refine wpAnyH_ready (rs := [4, 12]) (by kernel_rfl) (by simp) (AllReadyH.cons rfl (fun J hJ => ?_) (AllReadyH.cons rfl (fun J hJ => ?_) AllReadyH.nil))
                      · go_simp
                        refine (HLM.out _ HS.out).mono ?_
                        rintro e v2 ⟨A5, c5, rfl, i5, b5⟩
                        obtain ⟨lo5, hi5, XC, ZA⟩ : ∃ lo hi, Hid (FCl v2 wc.heap.size lo hi A5 (t ++ [a])) ∧ Hid (g1 < lo ∨ hi ≤ g1) := ⟨_, _, Lib.hid ⟨i5, HS.out.size, Nat.le_refl _⟩, Lib.hid (.inl XR.out.lt.2)⟩
                        replace XR := Lib.hid (XR.out.below b5)
                        replace HS := Lib.hid (HS.out.trans (b5.mono HS.out.size))
                        clear b5 i5
                        refine hJ.out _ _ HS.out (fun _ => ?_)
                        clear hJ J
                        go_simp
                        refine wpAnyH_ready (rs := [8, 12]) (by kernel_rfl) (by simp) (AllReadyH.cons rfl (fun J hJ => ?_) (AllReadyH.cons rfl (fun J hJ => ?_) AllReadyH.nil))
                        · refine step_append_g (by rfl) (.tmp 194) (.tmp 196) 28 (by rfl) wc.heap.size 3 i0 (.int .i64 0) 1 8 Try.underlying28 Hi0.out Hz0.out Hz1.out Hz2.out rfl (by decide) _ 0 [] rfl XR.out ⟨b, ob, none⟩ nt ct (t.map (Value.int .i64)) rfl ?a0 ?a1 ?a2 ?a3 ?a4 ?a5 ?_
                          case a0 => rw [List.length_map, Htl.out]; omega
                          case a1 => exact HTC.out _ HS.out
                          case a2 => exact map_ones t
                          case a3 => unfold maxLen; omega
                          case a4 => omega
                          case a5 => exact HS.out.size
                          intro v' v3 hown hgr hiff hat
                          obtain ⟨g2, c2, rfl, xr, hg2⟩ := a1_new hown hiff hat
                          have hc0 := XC.out.2.2
                          replace XC := Lib.hid (XC.out.grown hgr ZA.out)
                          replace ZA : Hid (g2 < lo5 ∨ hi5 ≤ g2) := Lib.hid (hg2.elim (fun h => by rw [h]; exact ZA.out) (fun h => .inr (by rw [h]; exact hc0)))
                          replace HS := Lib.hid (HS.out.trans (own_below hgr XR.out.lt.1 HS.out.size))
                          replace XR := Lib.hid xr
                          clear hown hgr hat xr hg2 hiff hc0
                          refine hJ.out _ _ HS.out (fun _ => ?_)
                          clear hJ J
                          go_simp
                          refine wpAnyH_ready (rs := [12]) (by kernel_rfl) (by simp) (AllReadyH.cons rfl (fun J hJ => ?_) AllReadyH.nil)
                          go_simp
                          obtain ⟨v4, g3, hV, hg3, xb, b5⟩ := b2_new v3 a
                          have XB := Lib.hid xb
                          have ZB : Hid (g3 ≠ g2) := Lib.hid (by have := XR.out.lt.2; omega)
                          replace XC := Lib.hid (XC.out.below b5)
                          replace XR := Lib.hid (XR.out.below b5)
                          replace HS := Lib.hid (HS.out.trans (b5.mono HS.out.size))
                          rw [hV, hg3]
                          clear b5 hV hg3 xb
                          refine hJ.out _ _ HS.out (fun _ => ?_)
                          clear hJ J
                          go_simp
                          refine wpAnyH_ready (rs := [13]) (by kernel_rfl) (by simp) (AllReadyH.cons rfl (fun J hJ => ?_) AllReadyH.nil)
                          refine step_append_g (by rfl) (.tmp 197) (.tmp 201) 28 (by rfl) wc.heap.size 3 i0 (.int .i64 0) 1 8 Try.underlying28 Hi0.out Hz0.out Hz1.out Hz2.out rfl (by decide) _ nt _ rfl XR.out ⟨g3, 0, none⟩ 1 1 [.int .i64 a] rfl rfl ?a1 ?a2 ?a3 ?a4 ?a5 ?_
                          case a1 => exact fb_cell XB.out
                          case a2 => simp [Value.oneCell']
                          case a3 => unfold maxLen; omega
                          case a4 => omega
                          case a5 => exact HS.out.size
                          intro v' v5 hown hgr _ hat
                          obtain ⟨g4, c4, rfl, xi⟩ := a2_new Htl.out hown
                          have XI := Lib.hid xi
                          replace XC := Lib.hid (XC.out.grown hgr ZA.out)
                          replace HS := Lib.hid (HS.out.trans (own_below hgr XR.out.lt.1 HS.out.size))
                          clear hown hgr hat xi XR XB ZB ZA
                          refine hJ.out _ _ HS.out (fun _ => ?_)
                          clear hJ J
                          go_simp
                          refine wpAnyH_ready (rs := [14]) (by kernel_rfl) (by simp) (AllReadyH.cons rfl (fun J hJ => ?_) AllReadyH.nil)
                          go_simp
                          refine (same_same A5 (some ⟨g4, 0, none⟩) (nt + 1) c5 c4 (t ++ [a]) _ (by rw [List.length_append, Htl.out]; rfl) (by omega) XC.out.1.ints XI.out).mono ?_
                          rintro e v6 ⟨rfl, b5⟩
                          replace HS := Lib.hid (HS.out.trans (b5.mono HS.out.size))
                          clear b5
                          refine hJ.out _ _ HS.out (fun _ => ?_)
                          clear hJ J
                          go_simp
                          refine wpAnyH_take (i := 15) (v := (.bool false)) rfl (by kernel_rfl) (by kernel_rfl) (by kernel_rfl) (fun _ _ _ h => h) (.inl ⟨rfl, fun V hS => ?y0⟩) HS.out ?_
                          case y0 =>
                            clear hS
                            go_simp
                          go_simp
                          refine wpAnyH_take (i := 16) (v := (.bool false)) rfl (by kernel_rfl) (by kernel_rfl) (by kernel_rfl) (fun _ _ _ h => h) (.inl ⟨rfl, fun V hS => ?y0⟩) HS.out ?_
                          case y0 =>
                            clear hS
                            go_simp
                          go_simp
                          refine wpAnyH_done (by kernel_rfl) ?_ _
                          go_wp2
                          go_ret
                          exact ⟨rfl, BW.out.trans (HS.out.mono BW.out.size)⟩
                        · go_simp
                          obtain ⟨v3, g3, hV, hg3, xb, b5⟩ := b2_new v2 a
                          have XB := Lib.hid xb
                          have ZB : Hid (g3 ≠ g1) := Lib.hid (by have := XR.out.lt.2; omega)
                          replace XC := Lib.hid (XC.out.below b5)
                          replace XR := Lib.hid (XR.out.below b5)
                          replace HS := Lib.hid (HS.out.trans (b5.mono HS.out.size))
                          rw [hV, hg3]
                          clear b5 hV hg3 xb
                          refine hJ.out _ _ HS.out (fun _ => ?_)
                          clear hJ J
                          go_simp
                          refine wpAnyH_ready (rs := [8]) (by kernel_rfl) (by simp) (AllReadyH.cons rfl (fun J hJ => ?_) AllReadyH.nil)
                          refine step_append_g (by rfl) (.tmp 194) (.tmp 196) 28 (by rfl) wc.heap.size 3 i0 (.int .i64 0) 1 8 Try.underlying28 Hi0.out Hz0.out Hz1.out Hz2.out rfl (by decide) _ 0 [] rfl XR.out ⟨b, ob, none⟩ nt ct (t.map (Value.int .i64)) rfl ?a0 ?a1 ?a2 ?a3 ?a4 ?a5 ?_
                          case a0 => rw [List.length_map, Htl.out]; omega
                          case a1 => exact HTC.out _ HS.out
                          case a2 => exact map_ones t
                          case a3 => unfold maxLen; omega
                          case a4 => omega
                          case a5 => exact HS.out.size
                          intro v' v4 hown hgr hiff hat
                          obtain ⟨g2, c2, rfl, xr, hg2⟩ := a1_new hown hiff hat
                          have hc0 := XC.out.2.2
                          replace XC := Lib.hid (XC.out.grown hgr ZA.out)
                          replace ZA : Hid (g2 < lo5 ∨ hi5 ≤ g2) := Lib.hid (hg2.elim (fun h => by rw [h]; exact ZA.out) (fun h => .inr (by rw [h]; exact hc0)))
                          have hb3 := XB.out.lt
                          replace XB := Lib.hid (XB.out.grown hgr ZB.out)
                          replace ZB : Hid (g3 ≠ g2) := Lib.hid (hg2.elim (fun h => by rw [h]; exact ZB.out) (fun h => by omega))
                          clear hb3
                          replace HS := Lib.hid (HS.out.trans (own_below hgr XR.out.lt.1 HS.out.size))
                          replace XR := Lib.hid xr
                          clear hown hgr hat xr hg2 hiff hc0
                          refine hJ.out _ _ HS.out (fun _ => ?_)
                          clear hJ J
                          go_simp
                          refine wpAnyH_ready (rs := [13]) (by kernel_rfl) (by simp) (AllReadyH.cons rfl (fun J hJ => ?_) AllReadyH.nil)
                          refine step_append_g (by rfl) (.tmp 197) (.tmp 201) 28 (by rfl) wc.heap.size 3 i0 (.int .i64 0) 1 8 Try.underlying28 Hi0.out Hz0.out Hz1.out Hz2.out rfl (by decide) _ nt _ rfl XR.out ⟨g3, 0, none⟩ 1 1 [.int .i64 a] rfl rfl ?a1 ?a2 ?a3 ?a4 ?a5 ?_
                          case a1 => exact fb_cell XB.out
                          case a2 => simp [Value.oneCell']
                          case a3 => unfold maxLen; omega
                          case a4 => omega
                          case a5 => exact HS.out.size
                          intro v' v5 hown hgr _ hat
                          obtain ⟨g4, c4, rfl, xi⟩ := a2_new Htl.out hown
                          have XI := Lib.hid xi
                          replace XC := Lib.hid (XC.out.grown hgr ZA.out)
                          replace HS := Lib.hid (HS.out.trans (own_below hgr XR.out.lt.1 HS.out.size))
                          clear hown hgr hat xi XR XB ZB ZA
                          refine hJ.out _ _ HS.out (fun _ => ?_)
                          clear hJ J
                          go_simp
                          refine wpAnyH_ready (rs := [14]) (by kernel_rfl) (by simp) (AllReadyH.cons rfl (fun J hJ => ?_) AllReadyH.nil)
                          go_simp
                          refine (same_same A5 (some ⟨g4, 0, none⟩) (nt + 1) c5 c4 (t ++ [a]) _ (by rw [List.length_append, Htl.out]; rfl) (by omega) XC.out.1.ints XI.out).mono ?_
                          rintro e v6 ⟨rfl, b5⟩
                          replace HS := Lib.hid (HS.out.trans (b5.mono HS.out.size))
                          clear b5
                          refine hJ.out _ _ HS.out (fun _ => ?_)
                          clear hJ J
                          go_simp
                          refine wpAnyH_take (i := 15) (v := (.bool false)) rfl (by kernel_rfl) (by kernel_rfl) (by kernel_rfl) (fun _ _ _ h => h) (.inl ⟨rfl, fun V hS => ?y0⟩) HS.out ?_
                          case y0 =>
                            clear hS
                            go_simp
                          go_simp
                          refine wpAnyH_take (i := 16) (v := (.bool false)) rfl (by kernel_rfl) (by kernel_rfl) (by kernel_rfl) (fun _ _ _ h => h) (.inl ⟨rfl, fun V hS => ?y0⟩) HS.out ?_
                          case y0 =>
                            clear hS
                            go_simp
                          go_simp
                          refine wpAnyH_done (by kernel_rfl) ?_ _
                          go_wp2
                          go_ret
                          exact ⟨rfl, BW.out.trans (HS.out.mono BW.out.size)⟩
                      · go_simp
                        obtain ⟨v2, g3, hV, hg3, xb, b5⟩ := b2_new v1 a
                        have XB := Lib.hid xb
                        have ZB : Hid (g3 ≠ g1) := Lib.hid (by have := XR.out.lt.2; omega)
                        replace XR := Lib.hid (XR.out.below b5)
                        replace HS := Lib.hid (HS.out.trans (b5.mono HS.out.size))
                        rw [hV, hg3]
                        clear b5 hV hg3 xb
                        refine hJ.out _ _ HS.out (fun _ => ?_)
                        clear hJ J
                        go_simp
                        refine wpAnyH_ready (rs := [4]) (by kernel_rfl) (by simp) (AllReadyH.cons rfl (fun J hJ => ?_) AllReadyH.nil)
                        go_simp
                        refine (HLM.out _ HS.out).mono ?_
                        rintro e v3 ⟨A5, c5, rfl, i5, b5⟩
                        obtain ⟨lo5, hi5, XC, ZA⟩ : ∃ lo hi, Hid (FCl v3 wc.heap.size lo hi A5 (t ++ [a])) ∧ Hid (g1 < lo ∨ hi ≤ g1) := ⟨_, _, Lib.hid ⟨i5, HS.out.size, Nat.le_refl _⟩, Lib.hid (.inl XR.out.lt.2)⟩
                        replace XR := Lib.hid (XR.out.below b5)
                        replace XB := Lib.hid (XB.out.below b5)
                        replace HS := Lib.hid (HS.out.trans (b5.mono HS.out.size))
                        clear b5 i5
                        refine hJ.out _ _ HS.out (fun _ => ?_)
                        clear hJ J
                        go_simp
                        refine wpAnyH_ready (rs := [8]) (by kernel_rfl) (by simp) (AllReadyH.cons rfl (fun J hJ => ?_) AllReadyH.nil)
                        refine step_append_g (by rfl) (.tmp 194) (.tmp 196) 28 (by rfl) wc.heap.size 3 i0 (.int .i64 0) 1 8 Try.underlying28 Hi0.out Hz0.out Hz1.out Hz2.out rfl (by decide) _ 0 [] rfl XR.out ⟨b, ob, none⟩ nt ct (t.map (Value.int .i64)) rfl ?a0 ?a1 ?a2 ?a3 ?a4 ?a5 ?_
                        case a0 => rw [List.length_map, Htl.out]; omega
                        case a1 => exact HTC.out _ HS.out
                        case a2 => exact map_ones t
                        case a3 => unfold maxLen; omega
                        case a4 => omega
                        case a5 => exact HS.out.size
                        intro v' v4 hown hgr hiff hat
                        obtain ⟨g2, c2, rfl, xr, hg2⟩ := a1_new hown hiff hat
                        have hc0 := XC.out.2.2
                        replace XC := Lib.hid (XC.out.grown hgr ZA.out)
                        replace ZA : Hid (g2 < lo5 ∨ hi5 ≤ g2) := Lib.hid (hg2.elim (fun h => by rw [h]; exact ZA.out) (fun h => .inr (by rw [h]; exact hc0)))
                        have hb3 := XB.out.lt
                        replace XB := Lib.hid (XB.out.grown hgr ZB.out)
                        replace ZB : Hid (g3 ≠ g2) := Lib.hid (hg2.elim (fun h => by rw [h]; exact ZB.out) (fun h => by omega))
                        clear hb3
                        replace HS := Lib.hid (HS.out.trans (own_below hgr XR.out.lt.1 HS.out.size))
                        replace XR := Lib.hid xr
                        clear hown hgr hat xr hg2 hiff hc0
                        refine hJ.out _ _ HS.out (fun _ => ?_)
                        clear hJ J
                        go_simp
                        refine wpAnyH_ready (rs := [13]) (by kernel_rfl) (by simp) (AllReadyH.cons rfl (fun J hJ => ?_) AllReadyH.nil)
                        refine step_append_g (by rfl) (.tmp 197) (.tmp 201) 28 (by rfl) wc.heap.size 3 i0 (.int .i64 0) 1 8 Try.underlying28 Hi0.out Hz0.out Hz1.out Hz2.out rfl (by decide) _ nt _ rfl XR.out ⟨g3, 0, none⟩ 1 1 [.int .i64 a] rfl rfl ?a1 ?a2 ?a3 ?a4 ?a5 ?_
                        case a1 => exact fb_cell XB.out
                        case a2 => simp [Value.oneCell']
                        case a3 => unfold maxLen; omega
                        case a4 => omega
                        case a5 => exact HS.out.size
                        intro v' v5 hown hgr _ hat
                        obtain ⟨g4, c4, rfl, xi⟩ := a2_new Htl.out hown
                        have XI := Lib.hid xi
                        replace XC := Lib.hid (XC.out.grown hgr ZA.out)
                        replace HS := Lib.hid (HS.out.trans (own_below hgr XR.out.lt.1 HS.out.size))
                        clear hown hgr hat xi XR XB ZB ZA
                        refine hJ.out _ _ HS.out (fun _ => ?_)
                        clear hJ J
                        go_simp
                        refine wpAnyH_ready (rs := [14]) (by kernel_rfl) (by simp) (AllReadyH.cons rfl (fun J hJ => ?_) AllReadyH.nil)
                        go_simp
                        refine (same_same A5 (some ⟨g4, 0, none⟩) (nt + 1) c5 c4 (t ++ [a]) _ (by rw [List.length_append, Htl.out]; rfl) (by omega) XC.out.1.ints XI.out).mono ?_
                        rintro e v6 ⟨rfl, b5⟩
                        replace HS := Lib.hid (HS.out.trans (b5.mono HS.out.size))
                        clear b5
                        refine hJ.out _ _ HS.out (fun _ => ?_)
                        clear hJ J
                        go_simp
                        refine wpAnyH_take (i := 15) (v := (.bool false)) rfl (by kernel_rfl) (by kernel_rfl) (by kernel_rfl) (fun _ _ _ h => h) (.inl ⟨rfl, fun V hS => ?y0⟩) HS.out ?_
                        case y0 =>
                          clear hS
                          go_simp
                        go_simp
                        refine wpAnyH_take (i := 16) (v := (.bool false)) rfl (by kernel_rfl) (by kernel_rfl) (by kernel_rfl) (fun _ _ _ h => h) (.inl ⟨rfl, fun V hS => ?y0⟩) HS.out ?_
                        case y0 =>
                          clear hS
                          go_simp
                        go_simp
                        refine wpAnyH_done (by kernel_rfl) ?_ _
                        go_wp2
                        go_ret
                        exact ⟨rfl, BW.out.trans (HS.out.mono BW.out.size)⟩
                    · go_simp
                      obtain ⟨v1, g3, hV, hg3, xb, b5⟩ := b2_new v0 a
                      have XB := Lib.hid xb
                      replace HS := Lib.hid (HS.out.trans (b5.mono HS.out.size))
                      rw [hV, hg3]
                      clear b5 hV hg3 xb
                      refine hJ.out _ _ HS.out (fun _ => ?_)
                      clear hJ J
                      go_simp
                      refine wpAnyH_ready (rs := [4, 5]) (by kernel_rfl) (by simp) (AllReadyH.cons rfl (fun J hJ => ?_) (AllReadyH.cons rfl (fun J hJ => ?_) AllReadyH.nil))
                      · go_simp
                        refine (HLM.out _ HS.out).mono ?_
                        rintro e v2 ⟨A5, c5, rfl, i5, b5⟩
                        obtain ⟨lo5, hi5, XC⟩ : ∃ lo hi, Hid (FCl v2 wc.heap.size lo hi A5 (t ++ [a])) := ⟨_, _, Lib.hid ⟨i5, HS.out.size, Nat.le_refl _⟩⟩
                        replace XB := Lib.hid (XB.out.below b5)
                        replace HS := Lib.hid (HS.out.trans (b5.mono HS.out.size))
                        clear b5 i5
                        refine hJ.out _ _ HS.out (fun _ => ?_)
                        clear hJ J
                        go_simp
                        refine wpAnyH_ready (rs := [5]) (by kernel_rfl) (by simp) (AllReadyH.cons rfl (fun J hJ => ?_) AllReadyH.nil)
                        go_simp
                        obtain ⟨v3, g1, hV, hg1, xr, b5⟩ := b1_new v2 HS.out.size
                        have XR := Lib.hid xr
                        have ZA : Hid (g1 < lo5 ∨ hi5 ≤ g1) := Lib.hid (.inr (by rw [← hg1]; exact XC.out.2.2))
                        replace XC := Lib.hid (XC.out.below b5)
                        have ZB : Hid (g3 ≠ g1) := Lib.hid (by have := XB.out.lt; omega)
                        replace XB := Lib.hid (XB.out.below b5)
                        replace HS := Lib.hid (HS.out.trans (b5.mono HS.out.size))
                        rw [hV, hg1]
                        clear b5 hV hg1 xr
                        refine hJ.out _ _ HS.out (fun _ => ?_)
                        clear hJ J
                        go_simp
                        refine wpAnyH_ready (rs := [8]) (by kernel_rfl) (by simp) (AllReadyH.cons rfl (fun J hJ => ?_) AllReadyH.nil)
                        refine step_append_g (by rfl) (.tmp 194) (.tmp 196) 28 (by rfl) wc.heap.size 3 i0 (.int .i64 0) 1 8 Try.underlying28 Hi0.out Hz0.out Hz1.out Hz2.out rfl (by decide) _ 0 [] rfl XR.out ⟨b, ob, none⟩ nt ct (t.map (Value.int .i64)) rfl ?a0 ?a1 ?a2 ?a3 ?a4 ?a5 ?_
                        case a0 => rw [List.length_map, Htl.out]; omega
                        case a1 => exact HTC.out _ HS.out
                        case a2 => exact map_ones t
                        case a3 => unfold maxLen; omega
                        case a4 => omega
                        case a5 => exact HS.out.size
                        intro v' v4 hown hgr hiff hat
                        obtain ⟨g2, c2, rfl, xr, hg2⟩ := a1_new hown hiff hat
                        have hc0 := XC.out.2.2
                        replace XC := Lib.hid (XC.out.grown hgr ZA.out)
                        replace ZA : Hid (g2 < lo5 ∨ hi5 ≤ g2) := Lib.hid (hg2.elim (fun h => by rw [h]; exact ZA.out) (fun h => .inr (by rw [h]; exact hc0)))
                        have hb3 := XB.out.lt
                        replace XB := Lib.hid (XB.out.grown hgr ZB.out)
                        replace ZB : Hid (g3 ≠ g2) := Lib.hid (hg2.elim (fun h => by rw [h]; exact ZB.out) (fun h => by omega))
                        clear hb3
                        replace HS := Lib.hid (HS.out.trans (own_below hgr XR.out.lt.1 HS.out.size))
                        replace XR := Lib.hid xr
                        clear hown hgr hat xr hg2 hiff hc0
                        refine hJ.out _ _ HS.out (fun _ => ?_)
                        clear hJ J
                        go_simp
                        refine wpAnyH_ready (rs := [13]) (by kernel_rfl) (by simp) (AllReadyH.cons rfl (fun J hJ => ?_) AllReadyH.nil)
                        refine step_append_g (by rfl) (.tmp 197) (.tmp 201) 28 (by rfl) wc.heap.size 3 i0 (.int .i64 0) 1 8 Try.underlying28 Hi0.out Hz0.out Hz1.out Hz2.out rfl (by decide) _ nt _ rfl XR.out ⟨g3, 0, none⟩ 1 1 [.int .i64 a] rfl rfl ?a1 ?a2 ?a3 ?a4 ?a5 ?_
                        case a1 => exact fb_cell XB.out
                        case a2 => simp [Value.oneCell']
                        case a3 => unfold maxLen; omega
                        case a4 => omega
                        case a5 => exact HS.out.size
                        intro v' v5 hown hgr _ hat
                        obtain ⟨g4, c4, rfl, xi⟩ := a2_new Htl.out hown
                        have XI := Lib.hid xi
                        replace XC := Lib.hid (XC.out.grown hgr ZA.out)
                        replace HS := Lib.hid (HS.out.trans (own_below hgr XR.out.lt.1 HS.out.size))
                        clear hown hgr hat xi XR XB ZB ZA
                        refine hJ.out _ _ HS.out (fun _ => ?_)
                        clear hJ J
                        go_simp
                        refine wpAnyH_ready (rs := [14]) (by kernel_rfl) (by simp) (AllReadyH.cons rfl (fun J hJ => ?_) AllReadyH.nil)
                        go_simp
                        refine (same_same A5 (some ⟨g4, 0, none⟩) (nt + 1) c5 c4 (t ++ [a]) _ (by rw [List.length_append, Htl.out]; rfl) (by omega) XC.out.1.ints XI.out).mono ?_
                        rintro e v6 ⟨rfl, b5⟩
                        replace HS := Lib.hid (HS.out.trans (b5.mono HS.out.size))
                        clear b5
                        refine hJ.out _ _ HS.out (fun _ => ?_)
                        clear hJ J
                        go_simp
                        refine wpAnyH_take (i := 15) (v := (.bool false)) rfl (by kernel_rfl) (by kernel_rfl) (by kernel_rfl) (fun _ _ _ h => h) (.inl ⟨rfl, fun V hS => ?y0⟩) HS.out ?_
                        case y0 =>
                          clear hS
                          go_simp
                        go_simp
                        refine wpAnyH_take (i := 16) (v := (.bool false)) rfl (by kernel_rfl) (by kernel_rfl) (by kernel_rfl) (fun _ _ _ h => h) (.inl ⟨rfl, fun V hS => ?y0⟩) HS.out ?_
                        case y0 =>
                          clear hS
                          go_simp
                        go_simp
                        refine wpAnyH_done (by kernel_rfl) ?_ _
                        go_wp2
                        go_ret
                        exact ⟨rfl, BW.out.trans (HS.out.mono BW.out.size)⟩
                      · go_simp
                        obtain ⟨v2, g1, hV, hg1, xr, b5⟩ := b1_new v1 HS.out.size
                        have XR := Lib.hid xr
                        have ZB : Hid (g3 ≠ g1) := Lib.hid (by have := XB.out.lt; omega)
                        replace XB := Lib.hid (XB.out.below b5)
                        replace HS := Lib.hid (HS.out.trans (b5.mono HS.out.size))
                        rw [hV, hg1]
                        clear b5 hV hg1 xr
                        refine hJ.out _ _ HS.out (fun _ => ?_)
                        clear hJ J
                        go_simp
                        refine wpAnyH_ready (rs := [4]) (by kernel_rfl) (by simp) (AllReadyH.cons rfl (fun J hJ => ?_) AllReadyH.nil)
                        go_simp
                        refine (HLM.out _ HS.out).mono ?_
                        rintro e v3 ⟨A5, c5, rfl, i5, b5⟩
                        obtain ⟨lo5, hi5, XC, ZA⟩ : ∃ lo hi, Hid (FCl v3 wc.heap.size lo hi A5 (t ++ [a])) ∧ Hid (g1 < lo ∨ hi ≤ g1) := ⟨_, _, Lib.hid ⟨i5, HS.out.size, Nat.le_refl _⟩, Lib.hid (.inl XR.out.lt.2)⟩
                        replace XR := Lib.hid (XR.out.below b5)
                        replace XB := Lib.hid (XB.out.below b5)
                        replace HS := Lib.hid (HS.out.trans (b5.mono HS.out.size))
                        clear b5 i5
                        refine hJ.out _ _ HS.out (fun _ => ?_)
                        clear hJ J
                        go_simp
                        refine wpAnyH_ready (rs := [8]) (by kernel_rfl) (by simp) (AllReadyH.cons rfl (fun J hJ => ?_) AllReadyH.nil)
                        refine step_append_g (by rfl) (.tmp 194) (.tmp 196) 28 (by rfl) wc.heap.size 3 i0 (.int .i64 0) 1 8 Try.underlying28 Hi0.out Hz0.out Hz1.out Hz2.out rfl (by decide) _ 0 [] rfl XR.out ⟨b, ob, none⟩ nt ct (t.map (Value.int .i64)) rfl ?a0 ?a1 ?a2 ?a3 ?a4 ?a5 ?_
                        case a0 => rw [List.length_map, Htl.out]; omega
                        case a1 => exact HTC.out _ HS.out
                        case a2 => exact map_ones t
                        case a3 => unfold maxLen; omega
                        case a4 => omega
                        case a5 => exact HS.out.size
                        intro v' v4 hown hgr hiff hat
                        obtain ⟨g2, c2, rfl, xr, hg2⟩ := a1_new hown hiff hat
                        have hc0 := XC.out.2.2
                        replace XC := Lib.hid (XC.out.grown hgr ZA.out)
                        replace ZA : Hid (g2 < lo5 ∨ hi5 ≤ g2) := Lib.hid (hg2.elim (fun h => by rw [h]; exact ZA.out) (fun h => .inr (by rw [h]; exact hc0)))
                        have hb3 := XB.out.lt
                        replace XB := Lib.hid (XB.out.grown hgr ZB.out)
                        replace ZB : Hid (g3 ≠ g2) := Lib.hid (hg2.elim (fun h => by rw [h]; exact ZB.out) (fun h => by omega))
                        clear hb3
                        replace HS := Lib.hid (HS.out.trans (own_below hgr XR.out.lt.1 HS.out.size))
                        replace XR := Lib.hid xr
                        clear hown hgr hat xr hg2 hiff hc0
                        refine hJ.out _ _ HS.out (fun _ => ?_)
                        clear hJ J
                        go_simp
                        refine wpAnyH_ready (rs := [13]) (by kernel_rfl) (by simp) (AllReadyH.cons rfl (fun J hJ => ?_) AllReadyH.nil)
                        refine step_append_g (by rfl) (.tmp 197) (.tmp 201) 28 (by rfl) wc.heap.size 3 i0 (.int .i64 0) 1 8 Try.underlying28 Hi0.out Hz0.out Hz1.out Hz2.out rfl (by decide) _ nt _ rfl XR.out ⟨g3, 0, none⟩ 1 1 [.int .i64 a] rfl rfl ?a1 ?a2 ?a3 ?a4 ?a5 ?_
                        case a1 => exact fb_cell XB.out
                        case a2 => simp [Value.oneCell']
                        case a3 => unfold maxLen; omega
                        case a4 => omega
                        case a5 => exact HS.out.size
                        intro v' v5 hown hgr _ hat
                        obtain ⟨g4, c4, rfl, xi⟩ := a2_new Htl.out hown
                        have XI := Lib.hid xi
                        replace XC := Lib.hid (XC.out.grown hgr ZA.out)
                        replace HS := Lib.hid (HS.out.trans (own_below hgr XR.out.lt.1 HS.out.size))
                        clear hown hgr hat xi XR XB ZB ZA
                        refine hJ.out _ _ HS.out (fun _ => ?_)
                        clear hJ J
                        go_simp
                        refine wpAnyH_ready (rs := [14]) (by kernel_rfl) (by simp) (AllReadyH.cons rfl (fun J hJ => ?_) AllReadyH.nil)
                        go_simp
                        refine (same_same A5 (some ⟨g4, 0, none⟩) (nt + 1) c5 c4 (t ++ [a]) _ (by rw [List.length_append, Htl.out]; rfl) (by omega) XC.out.1.ints XI.out).mono ?_
                        rintro e v6 ⟨rfl, b5⟩
                        replace HS := Lib.hid (HS.out.trans (b5.mono HS.out.size))
                        clear b5
                        refine hJ.out _ _ HS.out (fun _ => ?_)
                        clear hJ J
                        go_simp
                        refine wpAnyH_take (i := 15) (v := (.bool false)) rfl (by kernel_rfl) (by kernel_rfl) (by kernel_rfl) (fun _ _ _ h => h) (.inl ⟨rfl, fun V hS => ?y0⟩) HS.out ?_
                        case y0 =>
                          clear hS
                          go_simp
                        go_simp
                        refine wpAnyH_take (i := 16) (v := (.bool false)) rfl (by kernel_rfl) (by kernel_rfl) (by kernel_rfl) (fun _ _ _ h => h) (.inl ⟨rfl, fun V hS => ?y0⟩) HS.out ?_
                        case y0 =>
                          clear hS
                          go_simp
                        go_simp
                        refine wpAnyH_done (by kernel_rfl) ?_ _
                        go_wp2
                        go_ret
                        exact ⟨rfl, BW.out.trans (HS.out.mono BW.out.size)⟩
end Go.Proofs.Ytjbfmagedkmngaa.Que
