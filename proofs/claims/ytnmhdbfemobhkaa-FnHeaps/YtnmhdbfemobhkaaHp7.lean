/- What duesOk answers. -/
import Derived.Test.YtnmhdbfemobhkaaHp6
namespace Go.Proofs.Ytnmhdbfemobhkaa.Hp
open Go.RowKit Go.Deep Base

structure DuesI (w : World) (ds : List Du) (q : Int) (k : Nat) (wr : World) (S1 S2 : List Int) : Prop where
  m1 : wr.heap[w.heap.size]? = some (mapObj S1)
  m2 : wr.heap[w.heap.size + 1]? = some (mapObj S2)
  k1 : Keys (fun i => (ds.getD i zDu).seq) k S1
  k2 : Keys (fun i => (ds.getD i zDu).id) k S2
  old : Below w.heap.size w wr
  each : ∀ i, i < k → okD q (ds.getD i zDu) = true

theorem duesB_many {ds : List Du} {q : Int} {n : Nat} (h : 100 < n) : duesB ds q n = false := by
  unfold duesB
  rw [decide_eq_false (by omega)]
  rfl
theorem duesB_each {ds : List Du} {q : Int} {n k : Nat} (hk : k < n) (h : okD q (ds.getD k zDu) = false) : duesB ds q n = false := by
  unfold duesB
  rw [eachB_false hk h]
  simp

set_option maxRecDepth 100000 in
set_option maxHeartbeats 2000000 in
theorem duesOk_any (A : Option Addr) (n cap lo hi : Nat) (ds : List Du) (q : Int) (w : World) (hn : ds.length = n) (hm : n ≤ 1048576) (h : DV w lo hi A ds) (hs : hi ≤ w.heap.size) :
    Calls Try.prog 79 #[.slice A n cap, .int .i64 q] w fun e w' => e = .returned (.bool (duesB ds q n)) ∧ Below w.heap.size w w' := by
  have Hn := Lib.hid hn
  have HI := Lib.hid h
  clear hn h
  by_cases h100 : 100 < n
  · have Ho := Lib.hid (duesB_many (ds := ds) (q := q) h100)
    go_enter Try.func79, Try.ntmps79
    go_wp2
    go_ret
    exact ⟨by rw [Ho.out]; rfl, Below.refl _ _⟩
  have hmm := @run_makeMap Try.prog
  go_enter Try.func79, Try.ntmps79
  go_wp2
  clear hmm
  go_loopw [16] (fun i wr => ∃ k : Nat, k ≤ n ∧ i = .int .i64 k ∧ ∃ S1 S2, DuesI w ds q k wr S1 S2) (fun i _ => n - (intOf i).toNat)
  case atStart =>
    refine ⟨0, Nat.zero_le _, rfl, [], [], ⟨?_, ?_, Keys.zero _, Keys.zero _, ((Below.refl _ _).alloc (Nat.le_refl _) _).alloc (by simp) _, fun i h => absurd h (by omega)⟩⟩
    · exact (Below.heap_alloc _ _ _ (by simp)).trans (heap_alloc_new w _)
    · have h := heap_alloc_new (w.alloc (.map #[] 0)) (.map #[] 0)
      rw [World.size_alloc] at h
      exact h
  case round =>
    obtain ⟨k, hk, rfl, S1, S2, hi⟩ := hrel
    have Hi := Lib.hid hi
    have hz2 : w.heap.size + 1 < wr.heap.size := (Array.getElem?_eq_some_iff.1 hi.m2).1
    clear hi
    by_cases hlt : k < n
    · obtain ⟨g, rfl, hg1, hg2, hrd⟩ := (HI.out.below Hi.out.old hs) (by have := Hn.out; omega)
      obtain ⟨c0, c1, c2, _⟩ := hrd k (by have := Hn.out; omega)
      obtain ⟨dat, dseq, did, hd⟩ : ∃ a b c, ds.getD k zDu = ⟨a, b, c⟩ := ⟨_, _, _, rfl⟩
      rw [hd] at c0 c1 c2
      dsimp only at c0 c1 c2
      have Hd := Lib.hid hd
      clear hd hrd
      have hk0 : (0 : Int) ≤ (k : Int) := by omega
      have hk1 : (k : Int) < (n : Int) := by omega
      go_wp2_with fail
      refine (Tick.implTickOk_any dat _).mono ?_
      rintro e w1 ⟨rfl, b1⟩
      have i1 : w1.cell? ⟨wr.heap.size, 1, none⟩ = some (.int .i64 dseq) := (b1.cell (p := ⟨wr.heap.size, 1, none⟩) (by simp)).trans (by simp [go_sem])
      have i2 : w1.cell? ⟨wr.heap.size, 2, none⟩ = some (.int .i64 did) := (b1.cell (p := ⟨wr.heap.size, 2, none⟩) (by simp)).trans (by simp [go_sem])
      have B1 := Lib.hid (bel_trans (bel_alloc wr _) b1)
      have hzw : wr.heap.size < w1.heap.size := by have := b1.size; simp at this; omega
      clear b1 c0 c1 c2
      cases h1 : Tick.isT dat
      · have Ho := Lib.hid (duesB_each (ds := ds) (q := q) hlt (by rw [Hd.out]; unfold okD; rw [h1]; rfl))
        clear h1
        go_wp2
        go_ret
        exact ⟨by rw [Ho.out]; rfl, Hi.out.old.trans (B1.out.mono Hi.out.old.size)⟩
      have H1 := Lib.hid h1
      clear h1
      by_cases h2 : dseq < 1
      · have Ho := Lib.hid (duesB_each (ds := ds) (q := q) hlt (by rw [Hd.out]; unfold okD; rw [Tick.inB_false (x := dseq) (l := 1) (h := q) (.inl h2)]; simp))
        go_wp2
        go_ret
        exact ⟨by rw [Ho.out]; rfl, Hi.out.old.trans (B1.out.mono Hi.out.old.size)⟩
      by_cases h3 : q < dseq
      · have Ho := Lib.hid (duesB_each (ds := ds) (q := q) hlt (by rw [Hd.out]; unfold okD; rw [Tick.inB_false (x := dseq) (l := 1) (h := q) (.inr h3)]; simp))
        go_wp2
        go_ret
        exact ⟨by rw [Ho.out]; rfl, Hi.out.old.trans (B1.out.mono Hi.out.old.size)⟩
      have H23 : Hid (Tick.inB dseq 1 q = true) := Tick.inB_true (by omega) (by omega)
      go_wp2_with fail
      refine (idOk_any did _).mono ?_
      rintro e w' ⟨rfl, rfl⟩
      cases h4 : Tick.inB did 1 1000000000
      · have Ho := Lib.hid (duesB_each (ds := ds) (q := q) hlt (by rw [Hd.out]; unfold okD; rw [h4]; simp))
        clear h4
        go_wp2
        go_ret
        exact ⟨by rw [Ho.out]; rfl, Hi.out.old.trans (B1.out.mono Hi.out.old.size)⟩
      have Hok : Hid (okD q (ds.getD k zDu) = true) := by rw [Hd.out]; unfold okD; rw [H1.out, H23.out, h4]; rfl
      clear h4
      have hBw : Below w.heap.size w w1 := Hi.out.old.trans (B1.out.mono Hi.out.old.size)
      have hm1 : w1.heap[w.heap.size]? = some (mapObj S1) := (B1.out.block _ (by omega)).trans Hi.out.m1
      have hm2 : w1.heap[w.heap.size + 1]? = some (mapObj S2) := (B1.out.block _ (by omega)).trans Hi.out.m2
      obtain ⟨T1, hT1, hp1⟩ := put_key (w := w1.drew) hm1 Hi.out.k1 (x := dseq) (by show (ds.getD k zDu).seq = dseq; rw [Hd.out])
      obtain ⟨M1, hM1⟩ : ∃ M1, w1.drew.putObj w.heap.size (mapObj T1) = M1 := ⟨_, rfl⟩
      obtain ⟨a1, a2, a3, a4⟩ := put_turn (w := w) (W := w1.drew) (S' := T1) hm1 ⟨hBw.os, hBw.tape, hBw.output, hBw.size, hBw.block⟩ (Nat.le_refl _)
      rw [hM1] at hp1 a1 a2 a3 a4
      obtain ⟨T2, hT2, hp2⟩ := put_key (w := M1) ((a3 _ (by omega)).trans hm2) Hi.out.k2 (x := did) (by show (ds.getD k zDu).id = did; rw [Hd.out])
      obtain ⟨M2, hM2⟩ : ∃ M2, M1.putObj (w.heap.size + 1) (mapObj T2) = M2 := ⟨_, rfl⟩
      obtain ⟨e1, e2, e3, e4⟩ := put_turn (w := w) (W := M1) (S' := T2) ((a3 _ (by omega)).trans hm2) a2 (by omega)
      rw [hM2] at hp2 e1 e2 e3 e4
      have HQ : Hid (DuesI w ds q (k + 1) M2 T1 T2) := ⟨(e3 _ (by omega)).trans a1, e1, hT1, hT2, e2, fun i hi => by
        by_cases e : i = k
        · subst e; exact Hok.out
        · exact Hi.out.each i (by omega)⟩
      have j1 : M1.cell? ⟨wr.heap.size, 1, none⟩ = some (.int .i64 dseq) := (World.cell?_of_block (w := w1.drew) (a3 wr.heap.size (by omega))).trans i1
      have j2 : M1.cell? ⟨wr.heap.size, 2, none⟩ = some (.int .i64 did) := (World.cell?_of_block (w := w1.drew) (a3 wr.heap.size (by omega))).trans i2
      have f1 : M2.cell? ⟨wr.heap.size, 1, none⟩ = some (.int .i64 dseq) := (World.cell?_of_block (w := M1) (e3 wr.heap.size (by omega))).trans j1
      have f2 : M2.cell? ⟨wr.heap.size, 2, none⟩ = some (.int .i64 did) := (World.cell?_of_block (w := M1) (e3 wr.heap.size (by omega))).trans j2
      clear hM1 hM2 hm1 hm2 a1 a2 a3 a4 e1 e2 e3 e4 hT1 hT2 hBw
      go_wp2_with fail
      go_region
      all_goals
        go_wp2
        go_roundw
        case rel => exact ⟨k + 1, by omega, by go_num, T1, T2, HQ.out⟩
        case measure => simp [intOf]; omega
    · obtain rfl : k = n := by omega
      have hl1 : (Builtin.len_ #[99] 3 #[.map (some w.heap.size)]).run Try.prog wr = .ok (.int .i64 (S1.length : Int)) wr := by
        obtain ⟨es, hes, hml⟩ : ∃ es : Array MapEntry, es.size = S1.length ∧ wr.heap[w.heap.size]? = some (.map es S1.length) := ⟨_, by simp [entries_len], Hi.out.m1⟩
        rw [← hes]
        exact run_len_map (w := wr) _ _ _ es _ (by kernel_rfl) hml
      have hl2 : (Builtin.len_ #[99] 3 #[.map (some (w.heap.size + 1))]).run Try.prog wr = .ok (.int .i64 (S2.length : Int)) wr := by
        obtain ⟨es, hes, hml⟩ : ∃ es : Array MapEntry, es.size = S2.length ∧ wr.heap[w.heap.size + 1]? = some (.map es S2.length) := ⟨_, by simp [entries_len], Hi.out.m2⟩
        rw [← hes]
        exact run_len_map (w := wr) _ _ _ es _ (by kernel_rfl) hml
      have Hk1 := Lib.hid (keys_len Hi.out.k1)
      have Hk2 := Lib.hid (keys_len Hi.out.k2)
      have Ho : Hid (duesB ds q k = (apartB (fun i => (ds.getD i zDu).seq) k && apartB (fun i => (ds.getD i zDu).id) k)) := by
        show duesB ds q k = _
        unfold duesB
        rw [eachB_true Hi.out.each, decide_eq_true (by omega)]
        rfl
      cases hs1 : ((S1.length : Int) == (k : Int))
      · have Hs1 := Lib.hid hs1
        go_wp2
        go_ret
        exact ⟨by rw [Ho.out, ← Hk1.out, Hs1.out]; rfl, Hi.out.old⟩
      · have Hs1 := Lib.hid hs1
        go_wp2
        go_ret
        exact ⟨by rw [Ho.out, ← Hk1.out, ← Hk2.out, Hs1.out]; rfl, Hi.out.old⟩
end Go.Proofs.Ytnmhdbfemobhkaa.Hp
