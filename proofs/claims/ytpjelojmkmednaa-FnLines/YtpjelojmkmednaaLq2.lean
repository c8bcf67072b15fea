/- What spec.l01Has answers; rows of integers that a call has made by append. What spec.QueueOk answers: whether the two walks of the plain mathematics go through. -/
import Derived.Test.YtpjelojmkmednaaLq1
import Derived.Test.YtpjelojmkmednaaLq0
import Derived.Maps.AppendAt
namespace Go.Proofs.Ytpjelojmkmednaa.Que
open Go.RowKit Go.Deep Base

theorem owns_form {w : World} {base : Nat} {e : TypeId} {size n : Nat} {v : Value} {xs : List Value} (h : w.ownsRow base e size v n xs) : ∃ A cap, v = .slice A n cap := by
  rcases h.2 with ⟨rfl, rfl⟩ | ⟨g, cap, _, rfl, _⟩
  · exact ⟨none, 0, rfl⟩
  · exact ⟨_, cap, rfl⟩

theorem ints_owns {w : World} {base : Nat} {e : TypeId} {A : Option Addr} {n cap : Nat} {zs : List Int} (h : w.ownsRow base e 1 (.slice A n cap) n (zs.map (Value.int .i64))) : Ints w A zs := by
  intro hp
  have hl := h.1
  simp at hl
  rcases h.2 with ⟨hv, hn⟩ | ⟨g, cap', cur, hv, _, _⟩
  · omega
  · injection hv with hA _ _
    subst hA
    refine ⟨g, 0, rfl, fun i hi => ?_⟩
    have hc : w.ownsRow base e 1 (.slice (some ⟨g, 0, none⟩) n cap) n (zs.map (Value.int .i64)) := h
    have := hc.cellAt i (by omega)
    rw [Nat.zero_add, this]
    simp [hi]

set_option maxRecDepth 100000 in
set_option maxHeartbeats 400000 in
theorem has_any (A : Option Addr) (n cap : Nat) (zs : List Int) (x : Int) (w : World) (hn : zs.length = n) (hm : n ≤ 1048576) (h : Ints w A zs) :
    Calls Try.prog 94 #[.slice A n cap, .int .i64 x] w fun e w' => e = .returned (.bool (zs.contains x)) ∧ w = w' := by
  have Hn := Lib.hid hn
  clear hn
  have HI := Lib.hid h
  clear h
  go_enter Try.func94, Try.ntmps94
  go_wp2
  go_loop [5] (fun i => ∃ k : Nat, k ≤ n ∧ i = .int .i64 k ∧ (zs.take k).contains x = false) (fun i => n - (intOf i).toNat)
  case atStart => exact ⟨0, Nat.zero_le _, rfl, by simp⟩
  case round =>
    obtain ⟨k, hk, rfl, hq⟩ := hrel
    have Hq := Lib.hid hq
    clear hq
    by_cases hlt : k < n
    · obtain ⟨b, off, rfl, hc⟩ := HI.out (by have := Hn.out; omega)
      have hck := hc k (by have := Hn.out; omega)
      clear hc
      have Ht : Hid (zs.take (k + 1) = zs.take k ++ [zs.getD k 0]) := by
        have hk' : k < zs.length := by have := Hn.out; omega
        show _ = _
        rw [List.take_succ_eq_append_getElem hk']; simp [List.getD_eq_getElem?_getD, hk']
      have Hm : Hid (zs.getD k 0 ∈ zs) := by
        have hk' : k < zs.length := by have := Hn.out; omega
        show _ ∈ _
        simp [List.getD_eq_getElem?_getD, hk']
      generalize zs.getD k 0 = z at hck Ht Hm
      by_cases he : z = x
      · subst he
        go_wp2
        go_ret
        exact ⟨ret_bool (by simpa using Hm.out), rfl⟩
      · have hb : (z == x) = false := beq_eq_false_iff_ne.2 he
        have Hq' : Hid ((zs.take (k + 1)).contains x = false) := by
          have h1 := Hq.out
          have h2 := Ht.out
          show _ = _
          rw [h2]
          simp at h1 ⊢
          exact ⟨h1, fun h => he h.symm⟩
        go_wp2
        go_round
        case rel => exact ⟨k + 1, by omega, by go_num, Hq'.out⟩
        case measure => simp [intOf]; omega
    · go_wp2
      go_ret
      refine ⟨ret_bool ?_, rfl⟩
      have e : zs.take k = zs := List.take_of_length_le (by have := Hn.out; omega)
      have := Hq.out
      rw [e] at this
      simpa using this
end Go.Proofs.Ytpjelojmkmednaa.Que

namespace Go.Proofs.Ytpjelojmkmednaa.Que
open Go.RowKit Go.Deep Base

theorem infoBool : (Try.prog.info? 4).map (fun i => (i.zero, i.size, i.bytes)) = some (some (.bool false), 1, 1) := by kernel_rfl
theorem infoInt : (Try.prog.info? 3).map (fun i => (i.zero, i.size, i.bytes)) = some (some (.int .i64 0), 1, 8) := by kernel_rfl

theorem make_seen (w : World) :
    (Instr.makeSlice 114 (.int .i64 60) (.int .i64 60)).run Try.prog w = .ok (.slice (some ⟨w.heap.size, 0, none⟩) 60 60) (w.alloc (.cells (madeCells #[.bool false] 60) 4)) :=
  run_make_row' (P := Try.prog) 114 4 (.bool false) 1 Try.underlying114 infoBool rfl .i64 .i64 60 (by omega) (by omega) w

def idsOf (ss : List Sl) (vis : List Nat) : List Int := vis.map fun v => (sl ss v).id

structure UsedSt (B : Nat) (W1 wr : World) (v : Value) (vis : List Nat) (ids : List Int) : Prop where
  seen : wr.rowIs B 4 60 (fun j => .bool (decide (j ∈ vis)))
  ids : wr.ownsRow (B + 1) 3 1 v ids.length (ids.map (Value.int .i64))
  old : Below B W1 wr

theorem box5 {w wr : World} {v0 v1 v2 v3 v4 : Value} {t : TypeId} (h : Below (w.heap.size + 1) (w.alloc (.cells #[v0, v1, v2, v3, v4] t)) wr) :
    wr.cell? ⟨w.heap.size, 0, none⟩ = some v0 ∧ wr.cell? ⟨w.heap.size, 1, none⟩ = some v1 ∧ wr.cell? ⟨w.heap.size, 2, none⟩ = some v2 ∧ wr.cell? ⟨w.heap.size, 3, none⟩ = some v3 ∧ wr.cell? ⟨w.heap.size, 4, none⟩ = some v4 := by
  have e : ∀ o, wr.cell? ⟨w.heap.size, o, none⟩ = (w.alloc (.cells #[v0, v1, v2, v3, v4] t)).cell? ⟨w.heap.size, o, none⟩ := fun o => h.cell (by simp)
  have hn : ∀ o, (w.alloc (.cells #[v0, v1, v2, v3, v4] t)).cell? ⟨w.heap.size, o, none⟩ = #[v0, v1, v2, v3, v4][o]? := fun o => cell_of_row _ _ o _ t (0, 0) (heap_alloc_new w _)
  refine ⟨?_, ?_, ?_, ?_, ?_⟩ <;> (rw [e, hn]; rfl)

theorem UsedSt.start (w : World) (o : Obj) : UsedSt (w.heap.size + 1) (w.alloc o) (((w.alloc o).alloc (.cells (madeCells #[.bool false] 60) 4)).alloc (.cells #[] 3)) (.slice (some ⟨w.heap.size + 1 + 1, 0, none⟩) 0 0) [] [] := by
  refine ⟨?_, ?_, ?_⟩
  · have h := (World.rowIs_made (w.alloc o) (.bool false) 60 4).alloc (.cells #[] 3)
    rw [World.size_alloc] at h
    exact h.congr (fun i _ => by simp)
  · have h := World.ownsRow_lit (base := w.heap.size + 1 + 1) (e := 3) (size := 1) ((w.alloc o).alloc (.cells (madeCells #[.bool false] 60) 4)) #[] 0 (by simp) (by simp) (by simp)
    simpa using h
  · exact (((Below.refl _ _).alloc (by simp) _).alloc (by simp) _)

/-- One place more: its mark is set, its Id appended. -/
theorem UsedSt.step {B : Nat} {W1 wr w1 : World} {v v' : Value} {vis : List Nat} {ids : List Int} {k : Nat} {x : Int} {o o' : Obj} (h : UsedSt B W1 wr v vis ids) (hB : B = W1.heap.size)
    (hown : w1.ownsRow (B + 1) 3 1 v' (ids.length + 1) (ids.map (Value.int .i64) ++ [.int .i64 x])) (hg : (((wr.setCell ⟨B, k, none⟩ (.bool true)).alloc o).alloc o').grownBy w1 v.ownBlock) :
    UsedSt B W1 w1 v' (vis ++ [k]) (ids ++ [x]) := by
  have hlt := h.seen.lt
  have hne : some B ≠ v.ownBlock := by
    intro e
    have := (h.ids.lt B e.symm).1
    omega
  have hs : (((wr.setCell ⟨B, k, none⟩ (.bool true)).alloc o).alloc o').rowIs B 4 60 (fun j => .bool (decide (j ∈ vis ++ [k]))) := by
    refine (((h.seen.set k (.bool true)).alloc o).alloc o').congr (fun j _ => ?_)
    by_cases e : j = k
    · subst e; simp
    · rw [if_neg e]; simp [e]
  refine ⟨hs.of_block (hg.block B hs.lt hne), by simpa using hown, ?_⟩
  have h1 : Below B W1 (((wr.setCell ⟨B, k, none⟩ (.bool true)).alloc o).alloc o') := ((h.old.setCell (Nat.le_refl _) _).alloc (by simp [World.setCell]; omega) o).alloc (by simp [World.setCell]; omega) o'
  exact h1.grown hg (by simp [World.setCell]; omega) (fun j e => by have := (h.ids.lt j e).1; omega)

theorem okQ_len {ss : List Sl} {f l r c : Int} (h : ss.length ≠ 60) : okQ ss f l r c = false := by unfold okQ; rw [decide_eq_false h]; rfl
theorem okQ_none {ss : List Sl} {f l r c : Int} (h : usedW ss 61 f (-1) [] = none) : okQ ss f l r c = false := by unfold okQ; rw [h]; simp
theorem okQ_cnt {ss : List Sl} {f l r c : Int} {us : List Nat} {a : Int} (h : usedW ss 61 f (-1) [] = some (us, a)) (h' : (us.length : Int) ≠ c ∨ l ≠ a) : okQ ss f l r c = false := by
  unfold okQ; rw [h]
  rcases h' with h' | h'
  · simp [h']
  · simp [h']
theorem okQ_free {ss : List Sl} {f l r c : Int} {us : List Nat} {a : Int} (h : usedW ss 61 f (-1) [] = some (us, a)) (h' : freeW ss 61 r us = none) : okQ ss f l r c = false := by
  unfold okQ; rw [h]; simp [h']
theorem okQ_end {ss : List Sl} {f l r c : Int} {us vs : List Nat} {a : Int} (h0 : ss.length = 60) (h : usedW ss 61 f (-1) [] = some (us, a)) (h1 : (us.length : Int) = c) (h2 : l = a) (h' : freeW ss 61 r us = some vs) : okQ ss f l r c = ((vs.length : Int) == 60) := by
  unfold okQ; rw [h]; simp [h', h0, h1, h2]
  rw [Bool.eq_iff_iff]; simp; omega

theorem usedW_nil {ss : List Sl} {F : Nat} {a : Int} {vis : List Nat} : usedW ss (F + 1) (-1) a vis = some (vis, a) := by unfold usedW; rw [if_pos rfl]
theorem usedW_out {ss : List Sl} {F : Nat} {p a : Int} {vis : List Nat} (h : p ≠ -1) (h' : ¬ (0 ≤ p ∧ p ≤ 59)) : usedW ss (F + 1) p a vis = none := by unfold usedW; rw [if_neg h, if_pos h']
theorem usedW_seen {ss : List Sl} {F k : Nat} {a : Int} {vis : List Nat} (h : k < 60) (h' : k ∈ vis) : usedW ss (F + 1) k a vis = none := by
  unfold usedW; rw [if_neg (by omega), if_neg (by omega), Int.toNat_natCast, if_pos h']
theorem usedW_bad {ss : List Sl} {F k : Nat} {a : Int} {vis : List Nat} (h : k < 60) (h' : okU ss vis a k = false) : usedW ss (F + 1) k a vis = none := by
  unfold usedW; rw [if_neg (by omega), if_neg (by omega), Int.toNat_natCast]; split
  · rfl
  · rw [if_neg (by rw [h']; simp)]
theorem usedW_next {ss : List Sl} {F k : Nat} {a : Int} {vis : List Nat} (h : k < 60) (h1 : k ∉ vis) (h' : okU ss vis a k = true) : usedW ss (F + 1) k a vis = usedW ss F (sl ss k).next k (vis ++ [k]) := by
  conv => lhs; unfold usedW
  rw [if_neg (by omega), if_neg (by omega), Int.toNat_natCast, if_neg h1, if_pos h']
theorem freeW_nil {ss : List Sl} {F : Nat} {vis : List Nat} : freeW ss (F + 1) (-1) vis = some vis := by unfold freeW; rw [if_pos rfl]
theorem freeW_out {ss : List Sl} {F : Nat} {p : Int} {vis : List Nat} (h : p ≠ -1) (h' : ¬ (0 ≤ p ∧ p ≤ 59)) : freeW ss (F + 1) p vis = none := by unfold freeW; rw [if_neg h, if_pos h']
theorem freeW_seen {ss : List Sl} {F k : Nat} {vis : List Nat} (h : k < 60) (h' : k ∈ vis) : freeW ss (F + 1) k vis = none := by
  unfold freeW; rw [if_neg (by omega), if_neg (by omega), Int.toNat_natCast, if_pos h']
theorem freeW_bad {ss : List Sl} {F k : Nat} {vis : List Nat} (h : k < 60) (h' : okF (sl ss k) = false) : freeW ss (F + 1) k vis = none := by
  unfold freeW; rw [if_neg (by omega), if_neg (by omega), Int.toNat_natCast]; split
  · rfl
  · rw [if_neg (by rw [h']; simp)]
theorem freeW_next {ss : List Sl} {F k : Nat} {vis : List Nat} (h : k < 60) (h1 : k ∉ vis) (h' : okF (sl ss k) = true) : freeW ss (F + 1) k vis = freeW ss F (sl ss k).next (vis ++ [k]) := by
  conv => lhs; unfold freeW
  rw [if_neg (by omega), if_neg (by omega), Int.toNat_natCast, if_neg h1, if_pos h']

theorem okU_eq {ss : List Sl} {vis : List Nat} {a id prev next : Int} {used : Bool} {k : Nat} (h : sl ss k = ⟨id, prev, next, used⟩) :
    okU ss vis a k = (used && (prev == a) && decide (1 ≤ id) && decide (id ≤ 1000000000) && !((idsOf ss vis).contains id)) := by unfold okU; rw [h]; rfl

theorem idsOf_len (ss : List Sl) (vis : List Nat) : (idsOf ss vis).length = vis.length := by simp [idsOf]
theorem idsOf_snoc (ss : List Sl) (vis : List Nat) (k : Nat) : idsOf ss (vis ++ [k]) = idsOf ss vis ++ [(sl ss k).id] := by simp [idsOf]

theorem new_one_at {w : World} {B : Nat} (h : w.heap.size = B) (x : Value) (t : TypeId) : ∀ j u, [x][j]? = some u → (w.alloc (.cells #[x] t)).cell? ((⟨B, 0, none⟩ : Addr).add j) = some u := by
  subst h; exact cell_one_new _ _ _

theorem Draw_grown_set (w : World) (g o : Nat) (v : Value) : w.grownBy (w.setCell ⟨g, o, none⟩ v) (some g) :=
  ⟨rfl, rfl, rfl, by simp [World.setCell], fun i _ hne => Below.heap_setCell w _ v i (fun e => hne (by rw [e]))⟩

/-- Between two rounds of the first walk. -/
def LoopU (ss : List Sl) (f : Int) (B : Nat) (W1 : World) (v n a at_ : Value) (wr : World) : Prop :=
  ∃ (vis : List Nat) (F : Nat) (ahead p : Int), n = .int .i64 (vis.length : Int) ∧ a = .int .i64 ahead ∧ at_ = .int .i64 p ∧ F + vis.length = 60 ∧ usedW ss 61 f (-1) [] = usedW ss (F + 1) p ahead vis
    ∧ vis.Nodup ∧ (∀ x ∈ vis, x < 60) ∧ UsedSt B W1 wr v vis (idsOf ss vis)

/-- Between two rounds of the second walk. -/
def LoopF (ss : List Sl) (r : Int) (us : List Nat) (B : Nat) (W1 : World) (n at_ : Value) (wr : World) : Prop :=
  ∃ (vs : List Nat) (F : Nat) (p : Int), n = .int .i64 (vs.length : Int) ∧ at_ = .int .i64 p ∧ 60 ≤ F + vs.length ∧ freeW ss 61 r us = freeW ss (F + 1) p vs
    ∧ vs.Nodup ∧ (∀ x ∈ vs, x < 60) ∧ wr.rowIs B 4 60 (fun j => .bool (decide (j ∈ vs))) ∧ Below B W1 wr

theorem nodup_snoc {l : List Nat} {k : Nat} (h : l.Nodup) (hk : k ∉ l) : (l ++ [k]).Nodup := by
  rw [List.nodup_append]
  exact ⟨h, by simp, fun a ha b hb => by simp at hb; subst hb; rintro rfl; exact hk ha⟩
theorem lt_snoc {l : List Nat} {k : Nat} (h : ∀ x ∈ l, x < 60) (hk : k < 60) : ∀ x ∈ l ++ [k], x < 60 := fun x hx => by
  rcases List.mem_append.1 hx with hx | hx
  · exact h x hx
  · simp at hx; omega

set_option maxRecDepth 100000 in
set_option maxHeartbeats 2000000 in
theorem specQueueOk_any (A : Option Addr) (n cap lo hi : Nat) (f l r c : Int) (ss : List Sl) (w : World) (hn : ss.length = n) (hm : n ≤ 1048576) (h : SlV w lo hi A ss) (hs : hi ≤ w.heap.size) :
    Calls Try.prog 49 #[.agg #[.slice A n cap, .int .i64 f, .int .i64 l, .int .i64 r, .int .i64 c]] w fun e w' => e = .returned (.bool (okQ ss f l r c)) ∧ Below w.heap.size w w' := by
  have Hn := Lib.hid hn
  clear hn
  have HI := Lib.hid h
  clear h
  have HW : Hid (∀ (o : Obj) (wr : World), Below (w.heap.size + 1) (w.alloc o) wr → Below w.heap.size w wr) := fun o wr hb => (bel_alloc w o).trans (hb.mono (by omega))
  by_cases h60 : n = 60
  · subst h60
    have hmk := make_seen
    by_cases hc : 0 ≤ c ∧ c ≤ 60
    · have hin : Tick.inB c 0 60 = true := Tick.inB_true hc.1 hc.2
      go_enter Try.func49, Try.ntmps49
      go_wp2_with (go_at_call 93; with_reducible refine (Tick.in_any _ _ _ _).mono ?_; rintro e w' ⟨rfl, rfl⟩)
      clear hin hmk
      go_loopw [4, 5, 6, 7] (fun v m a p wr => LoopU ss f (w.heap.size + 1) (w.alloc (.cells #[.slice A 60 cap, .int .i64 f, .int .i64 l, .int .i64 r, .int .i64 c] 26)) v m a p wr) (fun _ m _ _ _ => 61 - (intOf m).toNat)
      case atStart => exact ⟨[], 60, -1, f, rfl, rfl, rfl, rfl, rfl, by simp, by simp, UsedSt.start w _⟩
      case round =>
        obtain ⟨vis, F, ahead, p, rfl, rfl, rfl, hF, hW, hnd, hlt, hst⟩ := hrel
        obtain ⟨b0, b1, b2, b3, b4⟩ := box5 hst.old
        have Hst := Lib.hid hst
        clear hst
        have HF := Lib.hid hF
        have HE := Lib.hid hW
        have Hd := Lib.hid hnd
        have Hl := Lib.hid hlt
        have hvl : vis.length ≤ 60 := by omega
        clear hF hW hnd hlt
        by_cases hp : p = -1
        · subst hp
          have Hu : Hid (usedW ss 61 f (-1) [] = some (vis, ahead)) := HE.out.trans usedW_nil
          clear HE
          by_cases hcn : (vis.length : Int) = c
          · have hcb : ((vis.length : Int) != c) = false := by simp [hcn]
            have hcb' : ((vis.length : Int) == c) = true := by simp [hcn]
            have Hcn := Lib.hid hcn
            clear hcn
            by_cases hla : l = ahead
            · subst hla
              go_wp2
              clear hcb hcb'
              go_loopw [5, 9] (fun m p wx => LoopF ss r vis (w.heap.size + 1) (w.alloc (.cells #[.slice A 60 cap, .int .i64 f, .int .i64 l, .int .i64 r, .int .i64 c] 26)) m p wx) (fun m _ _ => 61 - (intOf m).toNat)
              case atStart => exact ⟨vis, 60, r, rfl, rfl, by omega, rfl, Hd.out, Hl.out, Hst.out.seen, Hst.out.old⟩
              case round =>
                clear Hst HF Hd Hl b0 b1 b2 b3 b4
                obtain ⟨vs, G, p, rfl, rfl, hG, hW, hnd, hlt, hrow, hold⟩ := hrel
                obtain ⟨b0, b1, b2, b3, b4⟩ := box5 hold
                have HG := Lib.hid hG
                have HE := Lib.hid hW
                have Hd := Lib.hid hnd
                have Hl := Lib.hid hlt
                have Hrow := Lib.hid hrow
                have Hold := Lib.hid hold
                have hvl : vs.length ≤ 60 := nodup_le 60 vs hnd hlt
                clear hG hW hnd hlt hrow hold
                by_cases hp : p = -1
                · subst hp
                  have Hu2 : Hid (freeW ss 61 r vis = some vs) := HE.out.trans freeW_nil
                  go_wp2
                  go_ret
                  exact ⟨ret_bool (okQ_end Hn.out Hu.out Hcn.out rfl Hu2.out).symm, HW.out _ _ Hold.out⟩
                · have hp1 : (p == -1) = false := beq_eq_false_iff_ne.2 hp
                  have hp2 : (p != -1) = true := by simp [hp]
                  by_cases hr : 0 ≤ p ∧ p ≤ 59
                  · obtain ⟨k, rfl⟩ := Int.eq_ofNat_of_zero_le hr.1
                    have hk : k < 60 := by omega
                    have hin : Tick.inB (k : Int) 0 59 = true := Tick.inB_true hr.1 hr.2
                    have hsn := Hrow.out.cell hk
                    by_cases hv : k ∈ vs
                    · rw [decide_eq_true hv] at hsn
                      go_wp2_with (go_at_call 93; with_reducible refine (Tick.in_any _ _ _ _).mono ?_; rintro e w' ⟨rfl, rfl⟩)
                      go_ret
                      exact ⟨ret_bool (okQ_free Hu.out (HE.out.trans (freeW_seen hk hv))).symm, HW.out _ _ Hold.out⟩
                    · rw [decide_eq_false hv] at hsn
                      have Hv := Lib.hid hv
                      clear hv
                      obtain ⟨g, rfl, _, _, hcs⟩ := (HI.out.below (HW.out _ _ Hold.out) hs) (by have := Hn.out; omega)
                      obtain ⟨c0, c1, c2, c3, _⟩ := hcs k (by have := Hn.out; omega)
                      clear hcs
                      have Hs : Hid (sl ss k = ss.getD k zSl) := rfl
                      generalize ss.getD k zSl = sk at c0 c1 c2 c3 Hs
                      obtain ⟨id, prev, next, used⟩ := sk
                      dsimp only at c0 c1 c2 c3
                      have Hok : Hid (okF (sl ss k) = (!used && (id == 0) && (prev == -1))) := by
                        show okF (sl ss k) = _
                        rw [Hs.out]; rfl
                      have HB := Lib.hid ((HW.out _ _ Hold.out).alloc (HW.out _ _ Hold.out).size (.cells #[.int .i64 id, .int .i64 prev, .int .i64 next, .bool used] 91))
                      cases used
                      · by_cases hi : id = 0
                        · subst hi
                          by_cases hpv : prev = -1
                          · subst hpv
                            have HE1 := Lib.hid (HE.out.trans (freeW_next hk Hv.out (by rw [Hok.out]; rfl)))
                            have hfz : wr.frozen? ⟨w.heap.size + 1, k, none⟩ = false := Hrow.out.frozen k
                            have hwz := Hrow.out.lt
                            have HR := Lib.hid ((Hrow.out.set k (.bool true)).alloc (.cells #[.int .i64 0, .int .i64 (-1), .int .i64 next, .bool false] 91))
                            have HO := Lib.hid ((Hold.out.setCell (p := ⟨w.heap.size + 1, k, none⟩) (Nat.le_refl _) (.bool true)).alloc (by simp [World.setCell]; omega) (.cells #[.int .i64 0, .int .i64 (-1), .int .i64 next, .bool false] 91))
                            obtain ⟨d0, _, _, _, _⟩ := box5 HO.out
                            have hcs := (HI.out.below (HW.out _ _ HO.out) hs) (by have := Hn.out; omega)
                            obtain ⟨g', e', _, hgs, hcs⟩ := hcs
                            cases e'
                            obtain ⟨_, _, e2, _, _⟩ := hcs k (by have := Hn.out; omega)
                            rw [show ss.getD k zSl = sl ss k from rfl, Hs.out] at e2
                            dsimp only at e2
                            clear hcs
                            go_wp2_with (go_at_call 93; with_reducible refine (Tick.in_any _ _ _ _).mono ?_; rintro e w' ⟨rfl, rfl⟩)
                            go_roundw
                            case rel =>
                              have hnd := nodup_snoc Hd.out Hv.out
                              have hl60 := lt_snoc Hl.out hk
                              have h60 := nodup_le 60 _ hnd hl60
                              rw [List.length_append, List.length_singleton] at h60
                              refine ⟨vs ++ [k], G - 1, next, by simp, rfl, ?_, ?_, hnd, hl60, HR.out.congr (fun j _ => ?_), HO.out⟩
                              · have := HG.out
                                rw [List.length_append, List.length_singleton]; omega
                              · have h1 := HE1.out
                                have := HG.out
                                rw [Hs.out] at h1
                                rw [show G - 1 + 1 = G from by omega]
                                exact h1
                              · by_cases e : j = k
                                · subst e; simp
                                · rw [if_neg e]; simp [e]
                            case measure => simp [intOf] <;> omega
                          · have hpb : (prev == -1) = false := beq_eq_false_iff_ne.2 hpv
                            have hpc : (prev != -1) = true := by simp [hpv]
                            go_wp2_with (go_at_call 93; with_reducible refine (Tick.in_any _ _ _ _).mono ?_; rintro e w' ⟨rfl, rfl⟩)
                            go_ret
                            exact ⟨ret_bool (okQ_free Hu.out (HE.out.trans (freeW_bad hk (by rw [Hok.out, hpb]; rfl)))).symm, HB.out⟩
                        · have hib : (id == 0) = false := beq_eq_false_iff_ne.2 hi
                          have hic : (id != 0) = true := by simp [hi]
                          go_wp2_with (go_at_call 93; with_reducible refine (Tick.in_any _ _ _ _).mono ?_; rintro e w' ⟨rfl, rfl⟩)
                          go_ret
                          exact ⟨ret_bool (okQ_free Hu.out (HE.out.trans (freeW_bad hk (by rw [Hok.out, hib]; simp)))).symm, HB.out⟩
                      · go_wp2_with (go_at_call 93; with_reducible refine (Tick.in_any _ _ _ _).mono ?_; rintro e w' ⟨rfl, rfl⟩)
                        go_ret
                        exact ⟨ret_bool (okQ_free Hu.out (HE.out.trans (freeW_bad hk (by rw [Hok.out]; rfl)))).symm, HB.out⟩
                  · have hin : Tick.inB p 0 59 = false := Tick.inB_false (by omega)
                    go_wp2_with (go_at_call 93; with_reducible refine (Tick.in_any _ _ _ _).mono ?_; rintro e w' ⟨rfl, rfl⟩)
                    go_ret
                    exact ⟨ret_bool (okQ_free Hu.out (HE.out.trans (freeW_out hp hr))).symm, HW.out _ _ Hold.out⟩
            · have hlb : (l == ahead) = false := beq_eq_false_iff_ne.2 hla
              have hlc : (l != ahead) = true := by simp [hla]
              go_wp2
              go_ret
              exact ⟨ret_bool (okQ_cnt Hu.out (.inr hla)).symm, HW.out _ _ Hst.out.old⟩
          · have hcb : ((vis.length : Int) != c) = true := by simp [hcn]
            have hcb' : ((vis.length : Int) == c) = false := by simp [hcn]
            go_wp2
            go_ret
            exact ⟨ret_bool (okQ_cnt Hu.out (.inl hcn)).symm, HW.out _ _ Hst.out.old⟩
        · have hp1 : (p == -1) = false := beq_eq_false_iff_ne.2 hp
          have hp2 : (p != -1) = true := by simp [hp]
          by_cases hr : 0 ≤ p ∧ p ≤ 59
          · obtain ⟨k, rfl⟩ := Int.eq_ofNat_of_zero_le hr.1
            have hk : k < 60 := by omega
            have hin : Tick.inB (k : Int) 0 59 = true := Tick.inB_true hr.1 hr.2
            have hsn := Hst.out.seen.cell hk
            by_cases hv : k ∈ vis
            · rw [decide_eq_true hv] at hsn
              go_wp2_with (go_at_call 93; with_reducible refine (Tick.in_any _ _ _ _).mono ?_; rintro e w' ⟨rfl, rfl⟩)
              go_ret
              exact ⟨ret_bool (okQ_none (HE.out.trans (usedW_seen hk hv))).symm, HW.out _ _ Hst.out.old⟩
            · rw [decide_eq_false hv] at hsn
              have Hv := Lib.hid hv
              clear hv
              obtain ⟨g, rfl, _, _, hcs⟩ := (HI.out.below (HW.out _ _ Hst.out.old) hs) (by have := Hn.out; omega)
              obtain ⟨c0, c1, c2, c3, _⟩ := hcs k (by have := Hn.out; omega)
              clear hcs
              have Hs : Hid (sl ss k = ss.getD k zSl) := rfl
              generalize ss.getD k zSl = sk at c0 c1 c2 c3 Hs
              obtain ⟨id, prev, next, used⟩ := sk
              dsimp only at c0 c1 c2 c3
              have Hok := Lib.hid (okU_eq (vis := vis) (a := ahead) Hs.out)
              cases used
              · go_wp2_with (go_at_call 93; with_reducible refine (Tick.in_any _ _ _ _).mono ?_; rintro e w' ⟨rfl, rfl⟩)
                go_ret
                exact ⟨ret_bool (okQ_none (HE.out.trans (usedW_bad hk (by rw [Hok.out]; rfl)))).symm, (HW.out _ _ Hst.out.old).alloc (HW.out _ _ Hst.out.old).size _⟩
              by_cases hpa : prev = ahead
              · subst hpa
                by_cases hi : 1 ≤ id ∧ id ≤ 1000000000
                · have hin1 : Tick.inB id 1 1000000000 = true := Tick.inB_true hi.1 hi.2
                  obtain ⟨A', cap', rfl⟩ := owns_form Hst.out.ids
                  have HZ := Lib.hid (idsOf_len ss vis)
                  have hzl : (idsOf ss vis).length ≤ 60 := by rw [HZ.out]; exact hvl
                  cases hh : (idsOf ss vis).contains id
                  · have hok : okU ss vis prev k = true := by rw [Hok.out, hh, decide_eq_true hi.1, decide_eq_true hi.2]; simp
                    have HE1 := Lib.hid (HE.out.trans (usedW_next hk Hv.out hok))
                    have Hh := Lib.hid hh
                    clear hok hh
                    obtain ⟨i0, hi0, hz0, hz1, hz2⟩ := info_parts infoInt
                    have Hi0 := Lib.hid hi0
                    have Hz0 := Lib.hid hz0
                    have Hz1 := Lib.hid hz1
                    have Hz2 := Lib.hid hz2
                    clear hi0 hz0 hz1 hz2
                    have hfz : wr.frozen? ⟨w.heap.size + 1, k, none⟩ = false := Hst.out.seen.frozen k
                    have hwz := Hst.out.seen.lt
                    go_wp2_with (first | (go_at_call 93; with_reducible refine (Tick.in_any _ _ _ _).mono ?_; rintro e w' ⟨rfl, rfl⟩) | fail)
                    refine (has_any A' _ cap' _ id _ rfl (by omega) (ints_owns (Hst.out.ids.alloc _))).mono ?_
                    rintro e w' ⟨rfl, rfl⟩
                    rw [Hh.out]
                    go_wp2_with (at_builtin; refine wpList_append_own _ rfl _ _ 33 rfl (w.heap.size + 1 + 1) 3 i0 (.int .i64 0) 1 8 Try.underlying33 Hi0.out Hz0.out Hz1.out Hz2.out rfl (by decide) _ _ _ rfl (((Hst.out.ids.kept (Draw_grown_set _ _ _ _) ?c0h).alloc _).alloc _) ⟨wr.heap.size + 1, 0, none⟩ 1 1 [.int .i64 id] rfl rfl ?c1h ?c2h ?c3h ?c4h ?c5h ?_)
                    case c0h => exact .inr (fun e => by have := (Hst.out.ids.lt _ e).1; omega)
                    case c1h => exact new_one_at (by simp [World.setCell]) _ _
                    case c2h => simp [Value.oneCell']
                    case c3h => unfold maxLen; omega
                    case c4h => omega
                    case c5h => simp [World.setCell]; omega
                    · intro v' w1 hown hg _
                      have hst1 := Hst.out.step (by simp) hown hg
                      obtain ⟨d0, _, _, _, _⟩ := box5 hst1.old
                      have hcs := (HI.out.below (HW.out _ _ hst1.old) hs) (by have := Hn.out; omega)
                      obtain ⟨g', e', _, _, hcs⟩ := hcs
                      cases e'
                      obtain ⟨_, _, e2, _, _⟩ := hcs k (by have := Hn.out; omega)
                      rw [show ss.getD k zSl = sl ss k from rfl, Hs.out] at e2
                      have HQ : Hid (UsedSt (w.heap.size + 1) (w.alloc (.cells #[.slice (some ⟨g, 0, none⟩) 60 cap, .int .i64 f, .int .i64 l, .int .i64 r, .int .i64 c] 26)) w1 v' (vis ++ [k]) (idsOf ss (vis ++ [k]))) := by
                        have := idsOf_snoc ss vis k
                        rw [Hs.out] at this
                        show UsedSt _ _ _ _ _ _
                        rw [this]; exact hst1
                      clear hst1 hown hg hcs
                      dsimp only at e2
                      go_wp2
                      go_roundw
                      case rel =>
                        refine ⟨vis ++ [k], F - 1, k, next, by simp, rfl, rfl, ?_, ?_, nodup_snoc Hd.out Hv.out, lt_snoc Hl.out hk, HQ.out⟩
                        · have := HF.out
                          have := nodup_le 60 (vis ++ [k]) (nodup_snoc Hd.out Hv.out) (lt_snoc Hl.out hk)
                          rw [List.length_append, List.length_singleton] at this ⊢; omega
                        · have h1 := HE1.out
                          have := HF.out
                          have := nodup_le 60 (vis ++ [k]) (nodup_snoc Hd.out Hv.out) (lt_snoc Hl.out hk)
                          simp at this
                          rw [Hs.out] at h1
                          rw [show F - 1 + 1 = F from by omega]
                          exact h1
                      case measure => simp [intOf] <;> omega
                  · have hok : okU ss vis prev k = false := by rw [Hok.out, hh]; simp
                    have HE1 := Lib.hid (HE.out.trans (usedW_bad (F := F) hk hok))
                    have Hh := Lib.hid hh
                    clear hok hh
                    go_wp2_with (first | (go_at_call 93; with_reducible refine (Tick.in_any _ _ _ _).mono ?_; rintro e w' ⟨rfl, rfl⟩) | fail)
                    refine (has_any A' _ cap' _ id _ rfl (by omega) (ints_owns (Hst.out.ids.alloc _))).mono ?_
                    rintro e w' ⟨rfl, rfl⟩
                    rw [Hh.out]
                    go_wp2
                    go_ret
                    exact ⟨ret_bool (okQ_none HE1.out).symm, (HW.out _ _ Hst.out.old).alloc (HW.out _ _ Hst.out.old).size _⟩
                · have hin1 : Tick.inB id 1 1000000000 = false := Tick.inB_false (by omega)
                  have hok : okU ss vis prev k = false := by
                    rw [Hok.out]
                    by_cases h1 : 1 ≤ id
                    · rw [decide_eq_false (p := id ≤ 1000000000) (by omega)]; simp
                    · rw [decide_eq_false (p := 1 ≤ id) h1]; simp
                  have HE1 := Lib.hid (HE.out.trans (usedW_bad (F := F) hk hok))
                  clear hok
                  go_wp2_with (go_at_call 93; with_reducible refine (Tick.in_any _ _ _ _).mono ?_; rintro e w' ⟨rfl, rfl⟩)
                  go_ret
                  exact ⟨ret_bool (okQ_none HE1.out).symm, (HW.out _ _ Hst.out.old).alloc (HW.out _ _ Hst.out.old).size _⟩
              · have hpb : (prev == ahead) = false := beq_eq_false_iff_ne.2 hpa
                have hpc : (prev != ahead) = true := by simp [hpa]
                have HE1 := Lib.hid (HE.out.trans (usedW_bad (F := F) (a := ahead) hk (by rw [Hok.out, hpb]; simp)))
                go_wp2_with (go_at_call 93; with_reducible refine (Tick.in_any _ _ _ _).mono ?_; rintro e w' ⟨rfl, rfl⟩)
                go_ret
                exact ⟨ret_bool (okQ_none HE1.out).symm, (HW.out _ _ Hst.out.old).alloc (HW.out _ _ Hst.out.old).size _⟩
          · have hin : Tick.inB p 0 59 = false := Tick.inB_false (by omega)
            go_wp2_with (go_at_call 93; with_reducible refine (Tick.in_any _ _ _ _).mono ?_; rintro e w' ⟨rfl, rfl⟩)
            go_ret
            exact ⟨ret_bool (okQ_none (HE.out.trans (usedW_out hp hr))).symm, HW.out _ _ Hst.out.old⟩
    · have hin : Tick.inB c 0 60 = false := Tick.inB_false (by omega)
      go_enter Try.func49, Try.ntmps49
      go_wp2_with (go_at_call 93; with_reducible refine (Tick.in_any _ _ _ _).mono ?_; rintro e w' ⟨rfl, rfl⟩)
      go_ret
      refine ⟨ret_bool (Eq.symm ?_), bel_alloc _ _⟩
      cases hb : okQ ss f l r c
      · rfl
      · obtain ⟨us, fs, v⟩ := ok_val hb
        have h1 := v.cnt
        have h2 := v.full
        rw [List.length_append] at h2
        omega
  · have h1 : ((n : Int) == 60) = false := beq_eq_false_iff_ne.2 (by omega)
    have h2 : ((n : Int) != 60) = true := by simp; omega
    go_enter Try.func49, Try.ntmps49
    go_wp2
    go_ret
    exact ⟨ret_bool (okQ_len (by rw [Hn.out]; exact h60)).symm, bel_alloc _ _⟩
end Go.Proofs.Ytpjelojmkmednaa.Que
