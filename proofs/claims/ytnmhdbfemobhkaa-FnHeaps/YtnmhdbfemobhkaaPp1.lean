/- The program's popUntil and PopDue. -/
import Derived.Test.YtnmhdbfemobhkaaPp0
import Derived.Test.YtnmhdbfemobhkaaIntH
import Derived.Test.YtnmhdbfemobhkaaNxt2
namespace Go.Proofs.Ytnmhdbfemobhkaa.Hp
open Go.RowKit Go.Deep Base

theorem infoInt : (Try.prog.info? 3).map (fun i => (i.zero, i.size, i.bytes)) = some (some (.int .i64 0), 1, 8) := by kernel_rfl

/-- The length of the slice in the tree's box. -/
def lenAt (w : World) (b : Nat) : Nat := match w.cell? ⟨b, 0, none⟩ with
  | some (.slice _ n _) => n
  | _ => 0
theorem lenAt_of {w : World} {b n cap : Nat} {A : Option Addr} (h : w.cell? ⟨b, 0, none⟩ = some (.slice A n cap)) : lenAt w b = n := by unfold lenAt; rw [h]

theorem new_one_at {w : World} {B : Nat} (h : w.heap.size = B) (a : Value) (t : TypeId) : ∀ j u, [a][j]? = some u → (w.alloc (.cells #[a] t)).cell? ((⟨B, 0, none⟩ : Addr).add j) = some u := by
  subst h
  intro j u hj
  have ea : (⟨w.heap.size, 0, none⟩ : Addr).add j = ⟨w.heap.size, j, none⟩ := by
    unfold Addr.add; split
    · next h => subst h; rfl
    · simp
  rw [ea, cell_of_row _ _ j #[a] t (0, 0) (heap_alloc_new w _)]
  simpa using hj

/-- A row of integers and a block of another type are two. -/
theorem own_ne {w : World} {base p n : Nat} {v : Value} {xs : List Value} {cur : Array Value} {t : TypeId} (h : w.ownsRow base 3 1 v n xs) (hp : w.heap[p]? = some (.cells cur t (0, 0))) (ht : t ≠ 3) : some p ≠ v.ownBlock := by
  rcases h.2 with ⟨rfl, _⟩ | ⟨g, _, cur', rfl, _, hg, _⟩
  · exact fun e => by cases e
  · intro e
    injection e with e
    have e' : p = g := e
    rw [e', hg] at hp
    injection hp with hp
    injection hp with _ hp _
    exact ht hp.symm

/-- What popUntil leaves. -/
def PopEnd (w : World) (b lo hi cap : Nat) (A : Option Addr) (ds : List Du) (now : Int) (e : Ending) (w' : World) : Prop :=
  ∃ A2 c2, e = .returned (.slice A2 (popI ds.length ds now).length c2) ∧ IV w' w.heap.size w'.heap.size A2 (popI ds.length ds now) ∧ Tr w' b A (popR ds.length ds now).length cap ∧ DV w' lo hi A (popR ds.length ds now) ∧ Below lo w w'
    ∧ w'.ownsRow w.heap.size 3 1 (.slice A2 (popI ds.length ds now).length c2) (popI ds.length ds now).length ((popI ds.length ds now).map (Value.int .i64))

structure PopSt (w wr : World) (b lo hi cap : Nat) (A : Option Addr) (ds es : List Du) (q now : Int) (v : Value) (pre : List Int) (p : Nat) : Prop where
  tree : Tr wr b A es.length cap
  items : DV wr lo hi A es
  val : HV es q
  own : wr.ownsRow w.heap.size 3 1 v pre.length (pre.map (Value.int .i64))
  rest : popR ds.length ds now = popR es.length es now
  ids : popI ds.length ds now = pre ++ popI es.length es now
  few : pre.length + es.length ≤ ds.length
  d : Bk3 wr p (fstD es).at (fstD es).seq (fstD es).id
  dp : w.heap.size ≤ p
  old : Below lo w wr

set_option maxRecDepth 100000 in
set_option maxHeartbeats 2000000 in
theorem popUntil_any (b lo hi cap : Nat) (A : Option Addr) (ds : List Du) (q now : Int) (w : World) (hv : HV ds q) (ht : Tr w b A ds.length cap) (h : DV w lo hi A ds) (hc : ds.length ≤ cap) (hs : hi ≤ w.heap.size) (hib : hi ≤ b) (hlb : lo ≤ b) :
    Calls Try.prog 57 #[.pointer (some ⟨b, 0, none⟩), .int .i64 now] w (PopEnd w b lo hi cap A ds now) := by
  have HV0 := Lib.hid hv
  have HI := Lib.hid h
  have HT := Lib.hid ht
  have hbl := ht.lt
  have hfew : ds.length ≤ 100 := hv.few
  clear hv h ht
  obtain ⟨i0, hi0, hz0, hz1, hz2⟩ := info_parts infoInt
  have Hi0 := Lib.hid hi0
  have Hz0 := Lib.hid hz0
  have Hz1 := Lib.hid hz1
  have Hz2 := Lib.hid hz2
  clear hi0 hz0 hz1 hz2
  go_enter Try.func57, Try.ntmps57
  go_wp2_with fail
  refine (first_any b A ds.length cap lo hi ds w rfl HT.out HI.out hs).mono ?_
  rintro e w1 ⟨rfl, b1⟩
  have St0 : Hid (PopSt w (w1.alloc (.cells #[.int .i64 (fstD ds).at, .int .i64 (fstD ds).seq, .int .i64 (fstD ds).id] 39)) b lo hi cap A ds ds q now (.slice none 0 0) [] w1.heap.size) := by
    have b2 := bel_trans b1 (bel_alloc w1 (.cells #[.int .i64 (fstD ds).at, .int .i64 (fstD ds).seq, .int .i64 (fstD ds).id] 39))
    exact ⟨HT.out.below b2, HI.out.below b2 hs, HV0.out, World.ownsRow_nil _ _ _ _, rfl, rfl, by simp, heap_alloc_new w1 _, b1.size, b2.mono (by omega)⟩
  clear b1
  generalize (fstD ds).at = f0 at St0 ⊢
  generalize (fstD ds).seq = f1 at St0 ⊢
  generalize (fstD ds).id = f2 at St0 ⊢
  go_wp2_with fail
  go_loopw [5, 6] (fun x d wr => ∃ (v : Value) (es : List Du) (pre : List Int) (p : Nat), v = x ∧ d = .pointer (some ⟨p, 0, none⟩) ∧ PopSt w wr b lo hi cap A ds es q now v pre p) (fun _ _ wr => lenAt wr b)
  case atStart => exact ⟨_, ds, [], w1.heap.size, rfl, rfl, St0.out⟩
  case round =>
    obtain ⟨v, es, pre, p, hv, rfl, st⟩ := hrel
    subst hv
    have St := Lib.hid st
    clear st St0
    obtain ⟨d0, d1, d2, df⟩ := St.out.d.cells
    have hpl := St.out.d.lt
    obtain ⟨dat, dseq, did, hd⟩ : ∃ a b c, fstD es = ⟨a, b, c⟩ := ⟨_, _, _, rfl⟩
    have HD : Hid (Bk3 wr p dat dseq did) := by have := St.out.d; rw [hd] at this; exact this
    rw [hd] at d0 d1 d2
    dsimp only at d0 d1 d2
    have Hd := Lib.hid hd
    clear hd
    have hesl : es.length ≤ ds.length := by have := St.out.few; omega
    cases hdue : dueB es now
    · have Hdue := Lib.hid hdue
      have hstop : (dat = 0 ∧ dseq = 0 ∧ did = 0) ∨ (1 ≤ did ∧ now < dat) := by
        by_cases h0 : 0 < es.length
        · right
          have h1 := St.out.val.each 0 h0
          have h2 : es.getD 0 zDu = ⟨dat, dseq, did⟩ := Hd.out
          rw [h2] at h1
          unfold okD at h1
          simp only [Bool.and_eq_true, Tick.inB_iff] at h1
          unfold dueB at hdue
          rw [h2, decide_eq_true h0] at hdue
          simp at hdue
          exact ⟨h1.2.1, hdue⟩
        · left
          have h1 : es = [] := List.eq_nil_of_length_eq_zero (by omega)
          have h2 := Hd.out
          rw [h1] at h2
          have h3 : (⟨0, 0, 0⟩ : Du) = ⟨dat, dseq, did⟩ := h2
          injection h3 with a b c
          exact ⟨a.symm, b.symm, c.symm⟩
      clear hdue
      have HEnd : Hid (PopEnd w b lo hi cap A ds now (.returned v) wr) := by
        obtain ⟨A2, c2, rfl⟩ := owns_form St.out.own
        obtain ⟨h1, h2⟩ := pop_stop (F := es.length) Hdue.out
        have h3 := St.out.rest
        have h4 := St.out.ids
        rw [h1] at h3
        rw [h2, List.append_nil] at h4
        unfold PopEnd
        rw [h3, h4]
        exact ⟨A2, c2, rfl, iv_owns St.out.own, St.out.tree, St.out.items, St.out.old, St.out.own⟩
      rcases hstop with ⟨rfl, rfl, rfl⟩ | ⟨h1, h2⟩
      · go_wp2
        go_ret
        exact HEnd.out
      · have h3 : (did == 0) = false := by simp; omega
        have h4 : ¬ dat ≤ now := by omega
        go_wp2
        go_ret
        exact HEnd.out
    · have h0 : 0 < es.length := by unfold dueB at hdue; simp only [Bool.and_eq_true, decide_eq_true_eq] at hdue; exact hdue.1
      have hle : dat ≤ now := by
        unfold dueB at hdue
        simp only [Bool.and_eq_true, decide_eq_true_eq] at hdue
        have h2 : es.getD 0 zDu = ⟨dat, dseq, did⟩ := Hd.out
        rw [h2] at hdue
        exact hdue.2
      have hid1 : 1 ≤ did := by
        have h1 := St.out.val.each 0 h0
        have h2 : es.getD 0 zDu = ⟨dat, dseq, did⟩ := Hd.out
        rw [h2] at h1
        unfold okD at h1
        simp only [Bool.and_eq_true, Tick.inB_iff] at h1
        exact h1.2.1
      have h3 : (did == 0) = false := by simp; omega
      have Hgo := Lib.hid (pop_go (F := es.length - 1) hdue)
      clear hdue
      obtain ⟨g, hA, hg1, hg2, hrd⟩ := St.out.items h0
      obtain ⟨m, hm⟩ : ∃ m, es.length = m + 1 := ⟨es.length - 1, by omega⟩
      have Hm := Lib.hid hm
      have HTr : Hid (Tr wr b (some ⟨g, 0, none⟩) (m + 1) cap) := by have := St.out.tree; rw [hA, hm] at this; exact this
      have Hrd := Lib.hid hrd
      have HA := Lib.hid hA
      have hwz : w.heap.size ≤ wr.heap.size := St.out.old.size
      clear hA hrd hm
      go_wp2_with fail
      refine (remove_any b g m cap 0 lo (b + 1) es wr Hm.out (by have := Hm.out; omega) (by omega) (by have := Hm.out; omega) HTr.out Hrd.out (by omega) (by omega) hg1 (by omega) hlb (by omega)).mono ?_
      rintro e w2 ⟨rfl, t2, r2, n2⟩
      have T2 := Lib.hid t2
      have R2 := Lib.hid r2
      have D2 : Hid (Bk3 w2 p dat dseq did) := (n2.block p hpl (by have := St.out.dp; omega)).trans HD.out
      have O2 : Hid (w2.ownsRow w.heap.size 3 1 v pre.length (pre.map (Value.int .i64))) := by
        have h1 := St.out.own
        refine ⟨h1.1, ?_⟩
        rcases h1.2 with hn | ⟨r, c, cur, rfl, hb, hg, rest⟩
        · exact .inl hn
        · exact .inr ⟨r, c, cur, rfl, hb, (n2.block r (Array.getElem?_eq_some_iff.1 hg).1 (by omega)).trans hg, rest⟩
      have B2 := Lib.hid (St.out.old.trans (n2.toTurns.below (B := lo) (Nat.le_refl _) (by omega)))
      have z2 : wr.heap.size ≤ w2.heap.size := n2.size
      clear t2 r2 n2 d0 d1 d2 df
      obtain ⟨d0, d1, d2, df⟩ := D2.out.cells
      have hpl2 := D2.out.lt
      have hprel : pre.length ≤ 100 := by have := St.out.few; omega
      go_wp2_with (at_builtin; refine wpList_append_own _ rfl _ _ 29 rfl w.heap.size 3 i0 _ 1 8 Try.underlying29 Hi0.out Hz0.out Hz1.out Hz2.out rfl (by decide) v pre.length (pre.map (Value.int .i64)) rfl ?c0h ⟨w2.heap.size, 0, none⟩ 1 1 [.int .i64 did] rfl ?c6h ?c1h ?c2h ?c3h ?c4h ?c5h ?_)
      case c0h => exact O2.out.alloc _
      case c6h => rfl
      case c1h => exact new_one_at (w := w2) rfl _ _
      case c2h => simp [Value.oneCell']
      case c3h => unfold maxLen; omega
      case c4h => omega
      case c5h => simp; omega
      intro v3 w3 hown hgr _
      have hkeep : ∀ k, k < w2.heap.size → some k ≠ v.ownBlock → w3.heap[k]? = w2.heap[k]? := fun k hk hne => (hgr.block k (by simp; omega) hne).trans (Below.heap_alloc _ _ _ hk)
      have D3 : Hid (Bk3 w3 p dat dseq did) := (hkeep p hpl2 (own_ne O2.out D2.out (by decide))).trans D2.out
      have hne : ∀ k, k < w.heap.size → some k ≠ v.ownBlock := fun k hk e => by have := (O2.out.lt k e.symm).1; omega
      have T3 : Hid (Tr w3 b (some ⟨g, 0, none⟩) m cap) := T2.out.of_block (hkeep b (by omega) (hne b hbl))
      have R3 : Hid (Rd w3 g (remD es 0)) := R2.out.of_block (hkeep g (by omega) (hne g (by omega)))
      have z3 : w2.heap.size ≤ w3.heap.size := by have := hgr.size; simp at this; omega
      have B3 : Hid (Below lo w w3) := (B2.out.alloc (by omega) _).grown hgr (by simp; omega) (fun j e => by have := (O2.out.lt j e).1; omega)
      have O3 : Hid (w3.ownsRow w.heap.size 3 1 v3 (pre ++ [did]).length ((pre ++ [did]).map (Value.int .i64))) := by
        have h1 := hown
        rw [List.length_append, List.map_append]
        exact h1
      clear hown hgr hkeep d0 d1 d2 df O2 D2 T2 R2 B2
      have hpl3 := D3.out.lt
      obtain ⟨d0, d1, d2, df⟩ := D3.out.cells
      go_wp2_with fail
      have hrl : (remD es 0).length = m := by rw [remD_len, Hm.out]; rfl
      have Hrl := Lib.hid hrl
      clear hrl
      refine (first_any b (some ⟨g, 0, none⟩) m cap lo hi (remD es 0) _ Hrl.out (T3.out.below (bel_alloc w3 _)) (DV.below (B := w3.heap.size) (fun _ => ⟨g, rfl, hg1, hg2, R3.out⟩) (bel_alloc w3 _) (by omega)) (by simp; omega)).mono ?_
      rintro e w5 ⟨rfl, b5⟩
      have b35 := bel_trans (bel_alloc w3 (.cells #[.int .i64 dat, .int .i64 dseq, .int .i64 did] 39)) b5
      have D5 : Hid (Bk3 w5 w3.heap.size dat dseq did) := Bk3.below (heap_alloc_new w3 _) b5
      have T5 := Lib.hid (T3.out.below b35)
      have R5 := Lib.hid (R3.out.of_block (b35.block g (by omega)))
      have B5 := Lib.hid (B3.out.trans (b35.mono (by omega)))
      have O5 : Hid (w5.ownsRow w.heap.size 3 1 v3 (pre ++ [did]).length ((pre ++ [did]).map (Value.int .i64))) := by
        have h1 := O3.out
        refine ⟨h1.1, ?_⟩
        rcases h1.2 with hn | ⟨r, c, cur, rfl, hb, hg, rest⟩
        · exact .inl hn
        · exact .inr ⟨r, c, cur, rfl, hb, (b35.block r (Array.getElem?_eq_some_iff.1 hg).1).trans hg, rest⟩
      have z5 : w3.heap.size < w5.heap.size := D5.out.lt
      clear b5 b35 d0 d1 d2 df O3 D3 T3 R3 B3
      obtain ⟨d0, d1, d2, df⟩ := D5.out.cells
      have HQ : Hid (PopSt w (((w5.setCell ⟨w3.heap.size, 0, none⟩ (.int .i64 (fstD (remD es 0)).at)).setCell ⟨w3.heap.size, 1, none⟩ (.int .i64 (fstD (remD es 0)).seq)).setCell ⟨w3.heap.size, 2, none⟩ (.int .i64 (fstD (remD es 0)).id)) b lo hi cap A ds (remD es 0) q now v3 (pre ++ [did]) w3.heap.size) := by
        have hk : ∀ k, k ≠ w3.heap.size → (((w5.setCell ⟨w3.heap.size, 0, none⟩ (.int .i64 (fstD (remD es 0)).at)).setCell ⟨w3.heap.size, 1, none⟩ (.int .i64 (fstD (remD es 0)).seq)).setCell ⟨w3.heap.size, 2, none⟩ (.int .i64 (fstD (remD es 0)).id)).heap[k]? = w5.heap[k]? := fun k hk => by
          rw [heap_setCell_other _ _ _ _ hk, heap_setCell_other _ _ _ _ hk, heap_setCell_other _ _ _ _ hk]
        obtain ⟨p1, p2⟩ := Hgo.out
        have e1 : es.length - 1 + 1 = es.length := by omega
        have e2 : es.length - 1 = (remD es 0).length := (remD_len es 0).symm
        rw [e1, e2] at p1 p2
        refine ⟨?_, ?_, rem0_val St.out.val h0, ?_, by rw [St.out.rest, p1], ?_, ?_, ?_, by omega, ?_⟩
        · have h1 := T5.out.of_block (hk b (by omega))
          rw [HA.out, Hrl.out]
          exact h1
        · rw [HA.out]
          exact fun _ => ⟨g, rfl, hg1, hg2, R5.out.of_block (hk g (by omega))⟩
        · have h1 := O5.out
          refine ⟨h1.1, ?_⟩
          rcases h1.2 with hn | ⟨r, c, cur, rfl, hb, hg, rest⟩
          · exact .inl hn
          · refine .inr ⟨r, c, cur, rfl, hb, (hk r ?_).trans hg, rest⟩
            intro e
            exact own_ne O5.out D5.out (by decide) (by rw [← e]; rfl)
        · rw [St.out.ids, p2, List.append_assoc]
          have h2 : es.getD 0 zDu = ⟨dat, dseq, did⟩ := Hd.out
          rw [h2]
          rfl
        · rw [List.length_append, remD_len]
          have := St.out.few
          simp
          omega
        · have h1 := heap_setCell_same w5 w3.heap.size 0 _ _ (.int .i64 (fstD (remD es 0)).at) D5.out
          have h2 := heap_setCell_same _ w3.heap.size 1 _ _ (.int .i64 (fstD (remD es 0)).seq) h1
          have h3 := heap_setCell_same _ w3.heap.size 2 _ _ (.int .i64 (fstD (remD es 0)).id) h2
          exact h3
        · exact ((B5.out.setCell (show lo ≤ w3.heap.size by omega) _).setCell (show lo ≤ w3.heap.size by omega) _).setCell (show lo ≤ w3.heap.size by omega) _
      generalize (fstD (remD es 0)).at = f3 at HQ ⊢
      generalize (fstD (remD es 0)).seq = f4 at HQ ⊢
      generalize (fstD (remD es 0)).id = f5 at HQ ⊢
      go_wp2
      go_roundw
      case rel => exact ⟨v3, remD es 0, pre ++ [did], w3.heap.size, rfl, rfl, HQ.out⟩
      case measure =>
        rw [lenAt_of HQ.out.tree.cells.1, lenAt_of St.out.tree.cells.1, remD_len]
        omega
end Go.Proofs.Ytnmhdbfemobhkaa.Hp
