/- One operation of PlayHeap by the program. -/
import Derived.Test.YtnmhdbfemobhkaaPh1
import Derived.Test.YtnmhdbfemobhkaaSc3
import Derived.Test.YtnmhdbfemobhkaaPp3
import Derived.Deep.RegionLaw
import Derived.Deep.AppendLies
namespace Go.Proofs.Ytnmhdbfemobhkaa.Hp
open Go.RowKit Go.Deep Base

theorem popL_few (ds : List Du) (q now : Int) : (popL ds q now).length ≤ 100 := by
  unfold popL
  split
  · next h => exact Nat.le_trans (popI_len _ _ _) (okH_val h).few
  · simp

def b2i (b : Bool) : Int := if b = true then 1 else 0
/-- One operation: the items, the heap's Seq, the results. -/
def stpD (ds : List Du) (q : Int) (op : List Int) : List Du :=
  if op.length = 3 then (if op.getD 0 0 = 0 then schD ds q (op.getD 1 0) (op.getD 2 0) else if op.getD 0 0 = 1 then canD ds q (op.getD 1 0) else if op.getD 0 0 = 2 then popD ds q (op.getD 1 0) else ds) else ds
def stpQ (ds : List Du) (q : Int) (op : List Int) : Int :=
  if op.length = 3 then (if op.getD 0 0 = 0 then schQ ds q (op.getD 1 0) (op.getD 2 0) else q) else q
def stpL (ds : List Du) (q : Int) (op : List Int) : List Int :=
  if op.length = 3 then (if op.getD 0 0 = 0 then [b2i (schB ds q (op.getD 1 0) (op.getD 2 0))] else if op.getD 0 0 = 1 then [b2i (canB ds q (op.getD 1 0))] else if op.getD 0 0 = 2 then popL ds q (op.getD 1 0) ++ [-1] else [-2]) else [-2]

theorem oneIf_any (b : Bool) (w : World) : Calls Try.prog 76 #[.bool b] w fun e w' => e = .returned (.int .i64 (b2i b)) ∧ w = w' := by
  cases b
  · go_enter Try.func76, Try.ntmps76
    go_wp2
    go_ret
    exact ⟨rfl, rfl⟩
  · go_enter Try.func76, Try.ntmps76
    go_wp2
    go_ret
    exact ⟨rfl, rfl⟩

/-- What one operation leaves: the heap is new, or the one that came in; the results are new. -/
def StepEnd (w : World) (A : Option Addr) (ds ds' : List Du) (q' : Int) (out : List Int) (e : Ending) (w' : World) : Prop :=
  ∃ A' c' gi ci, e = .returned (.tuple #[.agg #[.slice A' ds'.length c', .int .i64 q'], .slice (some ⟨gi, 0, none⟩) out.length ci]) ∧ (DV w' w.heap.size w'.heap.size A' ds' ∨ (A' = A ∧ ds' = ds)) ∧ RI w' gi out ∧ w.heap.size ≤ gi ∧ gi < w'.heap.size ∧ Below w.heap.size w w'

theorem ri_one (W : World) (x : Int) (t : TypeId) : RI (W.alloc (.cells #[.int .i64 x] t)) W.heap.size [x] := by
  intro i hi
  obtain rfl : i = 0 := by simp at hi; exact hi
  have e := heap_alloc_new W (.cells #[.int .i64 x] t)
  exact ⟨(cell_of_row _ _ 0 _ t (0, 0) e).trans rfl, fun j => frozen_of_row _ _ j _ t e⟩
theorem len3 {op : List Int} (h : op.length = 3) : ∃ a b c, op = [a, b, c] := by
  match op, h with
  | [a, b, c], _ => exact ⟨a, b, c, rfl⟩

/-- What an operation reads: the heap's box and two of its own numbers. -/
def Ops (x gb : Nat) (v0 v1 : Value) (b c : Int) (V : World) : Prop := Blk2 V x v0 v1 ∧ V.cell? ⟨gb, 1, none⟩ = some (.int .i64 b) ∧ V.cell? ⟨gb, 2, none⟩ = some (.int .i64 c)
theorem Ops.below {x gb : Nat} {v0 v1 : Value} {b c : Int} {V W : World} (h : Ops x gb v0 v1 b c V) (hb : Below V.heap.size V W) : Ops x gb v0 v1 b c W := ⟨h.1.below hb, bkeep h.2.1 hb, bkeep h.2.2 hb⟩

set_option maxRecDepth 100000 in
set_option maxHeartbeats 2000000 in
theorem playDue_any (A : Option Addr) (n cap lo hi gb oc : Nat) (ds : List Du) (q : Int) (op : List Int) (w : World) (hn : ds.length = n) (hm : n ≤ 100) (h : DV w lo hi A ds) (hs : hi ≤ w.heap.size) (hop : RI w gb op) (hgb : gb < w.heap.size) (hol : op.length ≤ 1048576) (hoc : op.length = 3 → oc = 3) :
    Calls Try.prog 51 #[.agg #[.slice A n cap, .int .i64 q], .slice (some ⟨gb, 0, none⟩) op.length oc] w (StepEnd w A ds (stpD ds q op) (stpQ ds q op) (stpL ds q op)) := by
  have Hn := Lib.hid hn
  have HI := Lib.hid h
  have HO := Lib.hid hop
  clear hn h hop
  by_cases h3 : op.length = 3
  case neg =>
    clear hoc
    have e1 : stpD ds q op = ds := by unfold stpD; rw [if_neg h3]
    have e2 : stpQ ds q op = q := by unfold stpQ; rw [if_neg h3]
    have e3 : stpL ds q op = [-2] := by unfold stpL; rw [if_neg h3]
    rw [e1, e2, e3]
    obtain ⟨ol, hol'⟩ : ∃ ol, op.length = ol := ⟨_, rfl⟩
    rw [hol'] at h3 hol ⊢
    have h3' : ((ol : Int) == 3) = false := by simp; omega
    clear hol' e1 e2 e3
    go_enter Try.func51, Try.ntmps51
    go_wp2
    refine bodyPost_ret (v := .tuple #[.agg #[.slice A n cap, .int .i64 q], .slice (some ⟨w.heap.size + 1 + 1, 0, none⟩) 1 1]) (by simp [results, Try.results51, go_sem]) rfl ?_
    refine ⟨A, cap, w.heap.size + 1 + 1, 1, by rw [Hn.out]; rfl, .inr ⟨rfl, rfl⟩, ?_, by omega, by simp, ?_⟩
    · have h1 := ri_one ((w.alloc (.cells #[.slice A n cap, .int .i64 q] 28)).alloc (.cells #[.slice A n cap, .int .i64 q] 28)) (-2) 3
      simp only [World.size_alloc] at h1
      exact h1
    · exact (((Below.refl _ _).alloc (Nat.le_refl _) _).alloc (by simp) _).alloc (by simp; omega) _
  obtain rfl := hoc h3
  clear hoc
  obtain ⟨a, b, c, rfl⟩ := len3 h3
  clear h3 hol
  have k0 : w.cell? ⟨gb, 0, none⟩ = some (.int .i64 a) := (HO.out 0 (by simp)).1
  have k1 : w.cell? ⟨gb, 1, none⟩ = some (.int .i64 b) := (HO.out 1 (by simp)).1
  have k2 : w.cell? ⟨gb, 2, none⟩ = some (.int .i64 c) := (HO.out 2 (by simp)).1
  simp only [List.length_cons, List.length_nil, Nat.zero_add, Nat.reduceAdd]
  by_cases ha0 : a = 0
  · subst ha0
    have e1 : stpD ds q [0, b, c] = schD ds q b c := by simp [stpD]
    have e2 : stpQ ds q [0, b, c] = schQ ds q b c := by simp [stpQ]
    have e3 : stpL ds q [0, b, c] = [b2i (schB ds q b c)] := by simp [stpL]
    rw [e1, e2, e3]
    clear e1 e2 e3
    go_enter Try.func51, Try.ntmps51
    go_wp2_with fail
    obtain ⟨W0, hW0⟩ : ∃ W0, (w.alloc (.cells #[.slice A n cap, .int .i64 q] 28)).alloc (.cells #[.slice none 0 0, .int .i64 0] 28) = W0 := ⟨_, rfl⟩
    have B0 : Hid (Below w.heap.size w W0) := by rw [← hW0]; exact ((Below.refl _ _).alloc (Nat.le_refl _) _).alloc (by simp) _
    have X0 : Hid (Blk2 W0 w.heap.size (.slice A n cap) (.int .i64 q)) := by rw [← hW0]; exact Blk2.alloc (heap_alloc_new w _) _
    have Y0 : Hid (Blk2 W0 (w.heap.size + 1) (.slice none 0 0) (.int .i64 0)) := by
      have h := heap_alloc_new (w.alloc (.cells #[.slice A n cap, .int .i64 q] 28)) (.cells #[.slice none 0 0, .int .i64 0] 28)
      rw [World.size_alloc, hW0] at h
      exact h
    have z0 : w.heap.size + 1 < W0.heap.size := Y0.out.lt
    rw [hW0]
    clear hW0
    have HS0 : Hid (Ops w.heap.size gb (.slice A n cap) (.int .i64 q) b c W0.drew) := ⟨X0.out, bkeep k1 B0.out.drew, bkeep k2 B0.out.drew⟩
    refine wp_region_held_drew (S := Ops w.heap.size gb (.slice A n cap) (.int .i64 q) b c) (by kernel_rfl) HS0.out (fun _ => ?_)
    refine wpAnyH_take (i := 0) (v := (.agg #[.slice A n cap, .int .i64 q])) rfl (by kernel_rfl) (by kernel_rfl) (by kernel_rfl) (fun _ _ _ h => h) (.inl ⟨rfl, fun V hS => ?y0⟩) (HS0).out ?_
    case y0 =>
      obtain ⟨s0, s1, s2⟩ := hS.1.cells
      obtain ⟨_, s3, s4⟩ := hS
      go_simp
    go_simp
    refine wpAnyH_take (i := 1) (v := (.slice (some ⟨gb, 0, none⟩) 3 3)) rfl (by kernel_rfl) (by kernel_rfl) (by kernel_rfl) (fun _ _ _ h => h) (.inl ⟨rfl, fun V hS => ?y0⟩) (HS0).out ?_
    case y0 =>
      obtain ⟨s0, s1, s2⟩ := hS.1.cells
      obtain ⟨_, s3, s4⟩ := hS
      go_simp
    go_simp
    refine wpAnyH_take (i := 2) (v := (.pointer (some ⟨gb, 1, none⟩))) rfl (by kernel_rfl) (by kernel_rfl) (by kernel_rfl) (fun _ _ _ h => h) (.inl ⟨rfl, fun V hS => ?y0⟩) (HS0).out ?_
    case y0 =>
      obtain ⟨s0, s1, s2⟩ := hS.1.cells
      obtain ⟨_, s3, s4⟩ := hS
      go_simp
    go_simp
    refine wpAnyH_take (i := 3) (v := (.int .i64 b)) rfl (by kernel_rfl) (by kernel_rfl) (by kernel_rfl) (fun _ _ _ h => h) (.inl ⟨rfl, fun V hS => ?y0⟩) (HS0).out ?_
    case y0 =>
      obtain ⟨s0, s1, s2⟩ := hS.1.cells
      obtain ⟨_, s3, s4⟩ := hS
      go_simp
    go_simp
    refine wpAnyH_take (i := 4) (v := (.slice (some ⟨gb, 0, none⟩) 3 3)) rfl (by kernel_rfl) (by kernel_rfl) (by kernel_rfl) (fun _ _ _ h => h) (.inl ⟨rfl, fun V hS => ?y0⟩) (HS0).out ?_
    case y0 =>
      obtain ⟨s0, s1, s2⟩ := hS.1.cells
      obtain ⟨_, s3, s4⟩ := hS
      go_simp
    go_simp
    refine wpAnyH_take (i := 5) (v := (.pointer (some ⟨gb, 2, none⟩))) rfl (by kernel_rfl) (by kernel_rfl) (by kernel_rfl) (fun _ _ _ h => h) (.inl ⟨rfl, fun V hS => ?y0⟩) (HS0).out ?_
    case y0 =>
      obtain ⟨s0, s1, s2⟩ := hS.1.cells
      obtain ⟨_, s3, s4⟩ := hS
      go_simp
    go_simp
    refine wpAnyH_take (i := 6) (v := (.int .i64 c)) rfl (by kernel_rfl) (by kernel_rfl) (by kernel_rfl) (fun _ _ _ h => h) (.inl ⟨rfl, fun V hS => ?y0⟩) (HS0).out ?_
    case y0 =>
      obtain ⟨s0, s1, s2⟩ := hS.1.cells
      obtain ⟨_, s3, s4⟩ := hS
      go_simp
    go_simp
    refine wpAnyH_ready (rs := [7, 11]) (by kernel_rfl) (by simp) (AllReadyH.cons rfl (fun J hJ => ?_) (AllReadyH.cons rfl (fun J hJ => ?_) AllReadyH.nil))
    · go_simp
      refine (implSchedule_any A n cap lo hi ds q b c W0.drew Hn.out (by omega) (HI.out.below B0.out.drew hs) (by have := B0.out.size; show hi ≤ W0.heap.size; omega)).mono ?_
      rintro e w1 ⟨A1, c1, rfl, v1, b1⟩
      have b01 := bel_of_drew b1
      have HS1 := Lib.hid (HS0.out.below b1)
      have V1 := Lib.hid v1
      have B1 := Lib.hid (bel_trans B0.out b01)
      have Y1 := Lib.hid (Y0.out.below b01)
      have z1 : W0.heap.size ≤ w1.heap.size := b01.size
      clear b1 b01 v1
      obtain ⟨n1, hn1⟩ : ∃ n1, (schD ds q b c).length = n1 := ⟨_, rfl⟩
      have Hn1 := Lib.hid hn1
      obtain ⟨q1, hq1⟩ : ∃ q1, schQ ds q b c = q1 := ⟨_, rfl⟩
      obtain ⟨vb, hvb⟩ : ∃ vb, schB ds q b c = vb := ⟨_, rfl⟩
      have HConv : Hid (∀ e w', StepEnd w A ds (schD ds q b c) q1 [b2i vb] e w' → StepEnd w A ds (schD ds q b c) (schQ ds q b c) [b2i (schB ds q b c)] e w') := fun e w' h => by rw [hq1, hvb]; exact h
      rw [hn1, hq1, hvb]
      clear hn1 hq1 hvb
      refine hJ.out _ _ HS1.out (fun _ => ?_)
      clear hJ J
      go_simp
      refine wpAnyH_take (i := 8) (v := (.tuple #[.agg #[.slice A1 n1 c1, .int .i64 q1], .bool vb])) rfl (by kernel_rfl) (by kernel_rfl) (by kernel_rfl) (fun _ _ _ h => h) (.inl ⟨rfl, fun V hS => ?y0⟩) (HS1).out ?_
      case y0 =>
        obtain ⟨s0, s1, s2⟩ := hS.1.cells
        obtain ⟨_, s3, s4⟩ := hS
        go_simp
      go_simp
      refine wpAnyH_take (i := 9) (v := (.agg #[.slice A1 n1 c1, .int .i64 q1])) rfl (by kernel_rfl) (by kernel_rfl) (by kernel_rfl) (fun _ _ _ h => h) (.inl ⟨rfl, fun V hS => ?y0⟩) (HS1).out ?_
      case y0 =>
        obtain ⟨s0, s1, s2⟩ := hS.1.cells
        obtain ⟨_, s3, s4⟩ := hS
        go_simp
      go_simp
      refine wpAnyH_take (i := 10) (v := (.bool vb)) rfl (by kernel_rfl) (by kernel_rfl) (by kernel_rfl) (fun _ _ _ h => h) (.inl ⟨rfl, fun V hS => ?y0⟩) (HS1).out ?_
      case y0 =>
        obtain ⟨s0, s1, s2⟩ := hS.1.cells
        obtain ⟨_, s3, s4⟩ := hS
        go_simp
      go_simp
      refine wpAnyH_ready (rs := [11]) (by kernel_rfl) (by simp) (AllReadyH.cons rfl (fun J hJ => ?_) AllReadyH.nil)
      go_simp
      obtain ⟨Wp, hWp⟩ : ∃ Wp, w1.alloc (.cells #[.slice none 0 0, .int .i64 0] 28) = Wp := ⟨_, rfl⟩
      have bp : Below w1.heap.size w1 Wp := by rw [← hWp]; exact bel_alloc _ _
      have ZP : Hid (Blk2 Wp w1.heap.size (.slice none 0 0) (.int .i64 0)) := by rw [← hWp]; exact heap_alloc_new w1 _
      rw [hWp]
      clear hWp
      have HSw := Lib.hid (HS1.out.below bp)
      have Yw := Lib.hid (Y1.out.below bp)
      have Bw := Lib.hid (bel_trans B1.out bp)
      have Vw := Lib.hid (V1.out.below bp (Nat.le_refl _))
      clear bp
      refine hJ.out _ _ HSw.out (fun _ => ?_)
      clear hJ J
      -- ZP: the box at P in W is new; HSw: what is read; Yw, Bw, Vw
      obtain ⟨zz0, zz1, zzf⟩ := ZP.out.cells
      have hpl := ZP.out.lt
      refine wpAnyH_ready (rs := [12]) (by kernel_rfl) (by simp) (AllReadyH.cons rfl (fun J hJ => ?_) AllReadyH.nil)
      go_simp
      obtain ⟨W7, hW7⟩ : ∃ W7, ((Wp).setCell ⟨w1.heap.size, 0, none⟩ (.slice A1 n1 c1)).setCell ⟨w1.heap.size, 1, none⟩ (.int .i64 q1) = W7 := ⟨_, rfl⟩
      have hk7 : ∀ k, k ≠ w1.heap.size → W7.heap[k]? = (Wp).heap[k]? := fun k hk => by rw [← hW7, heap_setCell_other _ _ _ _ hk, heap_setCell_other _ _ _ _ hk]
      have hs7 : W7.heap.size = (Wp).heap.size := by rw [← hW7]; simp [World.setCell]
      have HP : Hid (Blk2 W7 w1.heap.size (.slice A1 n1 c1) (.int .i64 q1)) := by rw [← hW7]; exact ZP.out.put _ _
      have HB : Hid (Below w.heap.size w W7) := by rw [← hW7]; exact (Bw.out.setCell (show w.heap.size ≤ w1.heap.size by omega) _).setCell (show w.heap.size ≤ w1.heap.size by omega) _
      rw [hW7]
      clear hW7 zz0 zz1 zzf
      have HS7 : Hid (Ops w.heap.size gb (.slice A n cap) (.int .i64 q) b c W7) := ⟨HSw.out.1.of_block (hk7 _ (by omega)), (World.cell?_of_block (w := Wp) (a := ⟨gb, 1, none⟩) (hk7 gb (by omega))).trans HSw.out.2.1, (World.cell?_of_block (w := Wp) (a := ⟨gb, 2, none⟩) (hk7 gb (by omega))).trans HSw.out.2.2⟩
      have HY : Hid (Blk2 W7 (w.heap.size + 1) (.slice none 0 0) (.int .i64 0)) := Yw.out.of_block (hk7 _ (by omega))
      have HV : Hid (DV W7 (w.heap.size + 1 + 1) W7.heap.size A1 _) := DV.wide (lo := W0.heap.size) (hi := w1.heap.size) (Vw.out.of_block fun k h1 h2 => hk7 k (by omega)) (by omega) (by omega)
      have hs7' : (Wp).heap.size ≤ W7.heap.size := by omega
      clear hk7 hs7
      refine hJ.out _ _ HS7.out (fun _ => ?_)
      clear hJ J
      refine wpAnyH_ready (rs := [13]) (by kernel_rfl) (by simp) (AllReadyH.cons rfl (fun J hJ => ?_) AllReadyH.nil)
      go_simp
      refine hJ.out _ _ HS7.out (fun _ => ?_)
      clear hJ J
      refine wpAnyH_done (by kernel_rfl) ?_ _
      -- HP: the new heap's box at P in W; HY: the result's box; HB, HV
      go_wp2_with fail
      have HS5 : Hid (Blk2 (W7).drew w1.heap.size (.slice A1 n1 c1) (.int .i64 q1)) := HP.out
      obtain ⟨y0, y1, yf⟩ := HY.out.cells
      have hyl := HY.out.lt
      refine wp_region_held_drew (S := fun V => Blk2 V w1.heap.size (.slice A1 n1 c1) (.int .i64 q1)) (by kernel_rfl) HS5.out (fun _ => ?_)
      refine wpAnyH_take (i := 0) (v := (.agg #[.slice A1 n1 c1, .int .i64 q1])) rfl (by kernel_rfl) (by kernel_rfl) (by kernel_rfl) (fun _ _ _ h => h) (.inl ⟨rfl, fun V hS => ?y0⟩) (HS5).out ?_
      case y0 =>
        obtain ⟨s0, s1, s2⟩ := Blk2.cells hS
        go_simp
      go_simp
      refine wpAnyH_take (i := 1) (v := (.bool vb)) rfl (by kernel_rfl) (by kernel_rfl) (by kernel_rfl) (fun _ _ _ h => h) (.inl ⟨rfl, fun V hS => ?y0⟩) (HS5).out ?_
      case y0 =>
        obtain ⟨s0, s1, s2⟩ := Blk2.cells hS
        go_simp
      go_simp
      refine wpAnyH_ready (rs := [2]) (by kernel_rfl) (by simp) (AllReadyH.cons rfl (fun J hJ => ?_) AllReadyH.nil)
      go_simp
      refine (oneIf_any vb _).mono ?_
      rintro e w' ⟨rfl, rfl⟩
      refine hJ.out _ _ HS5.out (fun _ => ?_)
      clear hJ J
      refine wpAnyH_ready (rs := [3, 4]) (by kernel_rfl) (by simp) (AllReadyH.cons rfl (fun J hJ => ?_) (AllReadyH.cons rfl (fun J hJ => ?_) AllReadyH.nil))
      · go_simp
        obtain ⟨W6, hW6⟩ : ∃ W6, ((W7).alloc (.cells #[.int .i64 (b2i vb)] 3)).drew = W6 := ⟨_, rfl⟩
        have b6 : Below (W7).heap.size W7 W6 := by rw [← hW6]; exact (bel_alloc _ _).drew
        have R6 : Hid (RI W6 (W7).heap.size [b2i vb]) := by rw [← hW6]; exact (ri_one W7 (b2i vb) 3).of_block rfl
        have Z6 : Hid (W6.heap.size = (W7).heap.size + 1) := by
          show W6.heap.size = (W7).heap.size + 1
          rw [← hW6]
          exact World.size_alloc _ _
        have z6' : (W7).heap.size < W6.heap.size := by have := Z6.out; omega
        rw [hW6]
        clear hW6 y0 y1 yf
        have HS6 := Lib.hid (HP.out.below b6)
        have Y6 := Lib.hid (HY.out.below b6)
        refine hJ.out _ _ HS6.out (fun _ => ?_)
        clear hJ J
        obtain ⟨y0, y1, yf⟩ := Y6.out.cells
        have hyl6 := Y6.out.lt
        refine wpAnyH_ready (rs := [4]) (by kernel_rfl) (by simp) (AllReadyH.cons rfl (fun J hJ => ?_) AllReadyH.nil)
        go_simp
        obtain ⟨WF, hWF⟩ : ∃ WF, (W6.setCell ⟨w.heap.size + 1, 0, none⟩ (.slice A1 n1 c1)).setCell ⟨w.heap.size + 1, 1, none⟩ (.int .i64 q1) = WF := ⟨_, rfl⟩
        have hk : ∀ k, k ≠ w.heap.size + 1 → WF.heap[k]? = W6.heap[k]? := fun k hk => by rw [← hWF, heap_setCell_other _ _ _ _ hk, heap_setCell_other _ _ _ _ hk]
        have FK : Hid (∀ k, k < (W7).heap.size → k ≠ w.heap.size + 1 → WF.heap[k]? = (W7).heap[k]?) := fun k h1 h2 => (hk k h2).trans (b6.block k h1)
        have FY : Hid (Blk2 WF (w.heap.size + 1) (.slice A1 n1 c1) (.int .i64 q1)) := by rw [← hWF]; exact Y6.out.put _ _
        have FR : Hid (RI WF (W7).heap.size [b2i vb]) := R6.out.of_block (hk _ (by omega))
        have FZ : Hid (WF.heap.size = (W7).heap.size + 1) := by
          show WF.heap.size = (W7).heap.size + 1
          rw [← hWF, ← Z6.out]
          simp [World.setCell]
        have FB : Hid (Below w.heap.size w WF) := by rw [← hWF]; exact ((bel_trans HB.out b6).setCell (show w.heap.size ≤ w.heap.size + 1 by omega) _).setCell (show w.heap.size ≤ w.heap.size + 1 by omega) _
        have FS : Hid (Blk2 WF w1.heap.size (.slice A1 n1 c1) (.int .i64 q1)) := HS6.out.of_block (hk _ (by omega))
        rw [hWF]
        clear hWF hk b6
        refine hJ.out _ _ FS.out (fun _ => ?_)
        clear hJ J y0 y1 yf
        -- FK, FY, FR, FZ, FB: what the last world WF holds; S5: the new heap's box
        obtain ⟨f0, f1, ff⟩ := FY.out.cells
        refine wpAnyH_ready (rs := [5]) (by kernel_rfl) (by simp) (AllReadyH.cons rfl (fun J hJ => ?_) AllReadyH.nil)
        go_simp
        refine hJ.out _ _ FS.out (fun _ => ?_)
        clear hJ J
        refine wpAnyH_done (by kernel_rfl) ?_ _
        go_wp2
        refine bodyPost_ret (v := .tuple #[.agg #[.slice A1 n1 c1, .int .i64 q1], .slice (some ⟨((W7)).heap.size, 0, none⟩) 1 1]) (by simp [results, Try.results51, go_sem, f0, f1]) rfl (HConv.out _ _ ?_)
        refine ⟨A1, c1, ((W7)).heap.size, 1, by rw [Hn1.out]; rfl, .inl ?_, FR.out, by have := HB.out.size; omega, by have := FZ.out; omega, FB.out⟩
        refine DV.wide (lo := w.heap.size + 1 + 1) (hi := ((W7)).heap.size) ?_ (by omega) (by have := FZ.out; omega)
        exact HV.out.of_block fun k h1 h2 => FK.out k h2 (by omega)
      · go_simp
        obtain ⟨W6, hW6⟩ : ∃ W6, (((W7).setCell ⟨w.heap.size + 1, 0, none⟩ (.slice A1 n1 c1)).setCell ⟨w.heap.size + 1, 1, none⟩ (.int .i64 q1)).drew = W6 := ⟨_, rfl⟩
        have hk : ∀ k, k ≠ w.heap.size + 1 → W6.heap[k]? = (W7).heap[k]? := fun k hk => by
          rw [← hW6]
          show (((W7).setCell ⟨w.heap.size + 1, 0, none⟩ (.slice A1 n1 c1)).setCell ⟨w.heap.size + 1, 1, none⟩ (.int .i64 q1)).heap[k]? = _
          rw [heap_setCell_other _ _ _ _ hk, heap_setCell_other _ _ _ _ hk]
        have Y6 : Hid (Blk2 W6 (w.heap.size + 1) (.slice A1 n1 c1) (.int .i64 q1)) := by rw [← hW6]; exact HY.out.put _ _
        have Z6 : Hid (W6.heap.size = (W7).heap.size) := by
          show W6.heap.size = (W7).heap.size
          rw [← hW6]
          show (((W7).setCell ⟨w.heap.size + 1, 0, none⟩ (.slice A1 n1 c1)).setCell ⟨w.heap.size + 1, 1, none⟩ (.int .i64 q1)).heap.size = _
          simp [World.setCell]
        have B6 : Hid (Below w.heap.size w W6) := by rw [← hW6]; exact ((HB.out.setCell (show w.heap.size ≤ w.heap.size + 1 by omega) _).setCell (show w.heap.size ≤ w.heap.size + 1 by omega) _).drew
        have HS6 : Hid (Blk2 W6 w1.heap.size (.slice A1 n1 c1) (.int .i64 q1)) := HP.out.of_block (hk _ (by omega))
        rw [hW6]
        clear hW6 y0 y1 yf
        refine hJ.out _ _ HS6.out (fun _ => ?_)
        clear hJ J
        refine wpAnyH_ready (rs := [3]) (by kernel_rfl) (by simp) (AllReadyH.cons rfl (fun J hJ => ?_) AllReadyH.nil)
        go_simp
        obtain ⟨WF, hWF⟩ : ∃ WF, W6.alloc (.cells #[.int .i64 (b2i vb)] 3) = WF := ⟨_, rfl⟩
        have b6 : Below W6.heap.size W6 WF := by rw [← hWF]; exact bel_alloc _ _
        have FK : Hid (∀ k, k < (W7).heap.size → k ≠ w.heap.size + 1 → WF.heap[k]? = (W7).heap[k]?) := fun k h1 h2 => (b6.block k (by have := Z6.out; omega)).trans (hk k h2)
        have FY : Hid (Blk2 WF (w.heap.size + 1) (.slice A1 n1 c1) (.int .i64 q1)) := Y6.out.below b6
        have FR : Hid (RI WF (W7).heap.size [b2i vb]) := by rw [← Z6.out, ← hWF]; exact ri_one W6 (b2i vb) 3
        have FZ : Hid (WF.heap.size = (W7).heap.size + 1) := by
          show WF.heap.size = (W7).heap.size + 1
          rw [← Z6.out, ← hWF]
          exact World.size_alloc _ _
        have FB : Hid (Below w.heap.size w WF) := bel_trans B6.out b6
        have FS : Hid (Blk2 WF w1.heap.size (.slice A1 n1 c1) (.int .i64 q1)) := HS6.out.below b6
        rw [hWF, Z6.out]
        clear hWF hk b6
        refine hJ.out _ _ FS.out (fun _ => ?_)
        clear hJ J
        -- FK, FY, FR, FZ, FB: what the last world WF holds; S5: the new heap's box
        obtain ⟨f0, f1, ff⟩ := FY.out.cells
        refine wpAnyH_ready (rs := [5]) (by kernel_rfl) (by simp) (AllReadyH.cons rfl (fun J hJ => ?_) AllReadyH.nil)
        go_simp
        refine hJ.out _ _ FS.out (fun _ => ?_)
        clear hJ J
        refine wpAnyH_done (by kernel_rfl) ?_ _
        go_wp2
        refine bodyPost_ret (v := .tuple #[.agg #[.slice A1 n1 c1, .int .i64 q1], .slice (some ⟨((W7)).heap.size, 0, none⟩) 1 1]) (by simp [results, Try.results51, go_sem, f0, f1]) rfl (HConv.out _ _ ?_)
        refine ⟨A1, c1, ((W7)).heap.size, 1, by rw [Hn1.out]; rfl, .inl ?_, FR.out, by have := HB.out.size; omega, by have := FZ.out; omega, FB.out⟩
        refine DV.wide (lo := w.heap.size + 1 + 1) (hi := ((W7)).heap.size) ?_ (by omega) (by have := FZ.out; omega)
        exact HV.out.of_block fun k h1 h2 => FK.out k h2 (by omega)
        skip
    · go_simp
      obtain ⟨Wp, hWp⟩ : ∃ Wp, (W0.alloc (.cells #[.slice none 0 0, .int .i64 0] 28)).drew = Wp := ⟨_, rfl⟩
      have bp : Below W0.heap.size W0 Wp := by rw [← hWp]; exact (bel_alloc _ _).drew
      have ZP0 : Hid (Blk2 Wp W0.heap.size (.slice none 0 0) (.int .i64 0)) := by rw [← hWp]; exact heap_alloc_new W0 _
      have zp : W0.heap.size < Wp.heap.size := ZP0.out.lt
      rw [hWp]
      clear hWp
      have HSp : Hid (Ops w.heap.size gb (.slice A n cap) (.int .i64 q) b c Wp) := Ops.below (V := W0) HS0.out bp
      have BP := Lib.hid (bel_trans B0.out bp)
      have YP := Lib.hid (Y0.out.below bp)
      clear bp
      refine hJ.out _ _ HSp.out (fun _ => ?_)
      clear hJ J
      refine wpAnyH_ready (rs := [7]) (by kernel_rfl) (by simp) (AllReadyH.cons rfl (fun J hJ => ?_) AllReadyH.nil)
      go_simp
      refine (implSchedule_any A n cap lo hi ds q b c Wp Hn.out (by omega) (HI.out.below BP.out hs) (by have := BP.out.size; omega)).mono ?_
      rintro e w1 ⟨A1, c1, rfl, v1, b1⟩
      have HS1 := Lib.hid (HSp.out.below b1)
      have HSw := HS1
      have Vw := Lib.hid v1
      have Bw := Lib.hid (bel_trans BP.out b1)
      have Yw := Lib.hid (YP.out.below b1)
      have ZP := Lib.hid (ZP0.out.below b1)
      have z1 : Wp.heap.size ≤ w1.heap.size := b1.size
      clear b1 v1
      obtain ⟨n1, hn1⟩ : ∃ n1, (schD ds q b c).length = n1 := ⟨_, rfl⟩
      have Hn1 := Lib.hid hn1
      obtain ⟨q1, hq1⟩ : ∃ q1, schQ ds q b c = q1 := ⟨_, rfl⟩
      obtain ⟨vb, hvb⟩ : ∃ vb, schB ds q b c = vb := ⟨_, rfl⟩
      have HConv : Hid (∀ e w', StepEnd w A ds (schD ds q b c) q1 [b2i vb] e w' → StepEnd w A ds (schD ds q b c) (schQ ds q b c) [b2i (schB ds q b c)] e w') := fun e w' h => by rw [hq1, hvb]; exact h
      rw [hn1, hq1, hvb]
      clear hn1 hq1 hvb
      refine hJ.out _ _ HS1.out (fun _ => ?_)
      clear hJ J
      go_simp
      refine wpAnyH_take (i := 8) (v := (.tuple #[.agg #[.slice A1 n1 c1, .int .i64 q1], .bool vb])) rfl (by kernel_rfl) (by kernel_rfl) (by kernel_rfl) (fun _ _ _ h => h) (.inl ⟨rfl, fun V hS => ?y0⟩) (HS1).out ?_
      case y0 =>
        obtain ⟨s0, s1, s2⟩ := hS.1.cells
        obtain ⟨_, s3, s4⟩ := hS
        go_simp
      go_simp
      refine wpAnyH_take (i := 9) (v := (.agg #[.slice A1 n1 c1, .int .i64 q1])) rfl (by kernel_rfl) (by kernel_rfl) (by kernel_rfl) (fun _ _ _ h => h) (.inl ⟨rfl, fun V hS => ?y0⟩) (HS1).out ?_
      case y0 =>
        obtain ⟨s0, s1, s2⟩ := hS.1.cells
        obtain ⟨_, s3, s4⟩ := hS
        go_simp
      go_simp
      refine wpAnyH_take (i := 10) (v := (.bool vb)) rfl (by kernel_rfl) (by kernel_rfl) (by kernel_rfl) (fun _ _ _ h => h) (.inl ⟨rfl, fun V hS => ?y0⟩) (HS1).out ?_
      case y0 =>
        obtain ⟨s0, s1, s2⟩ := hS.1.cells
        obtain ⟨_, s3, s4⟩ := hS
        go_simp
      go_simp
      -- ZP: the box at P in W is new; HSw: what is read; Yw, Bw, Vw
      obtain ⟨zz0, zz1, zzf⟩ := ZP.out.cells
      have hpl := ZP.out.lt
      refine wpAnyH_ready (rs := [12]) (by kernel_rfl) (by simp) (AllReadyH.cons rfl (fun J hJ => ?_) AllReadyH.nil)
      go_simp
      obtain ⟨W7, hW7⟩ : ∃ W7, ((w1).setCell ⟨W0.heap.size, 0, none⟩ (.slice A1 n1 c1)).setCell ⟨W0.heap.size, 1, none⟩ (.int .i64 q1) = W7 := ⟨_, rfl⟩
      have hk7 : ∀ k, k ≠ W0.heap.size → W7.heap[k]? = (w1).heap[k]? := fun k hk => by rw [← hW7, heap_setCell_other _ _ _ _ hk, heap_setCell_other _ _ _ _ hk]
      have hs7 : W7.heap.size = (w1).heap.size := by rw [← hW7]; simp [World.setCell]
      have HP : Hid (Blk2 W7 W0.heap.size (.slice A1 n1 c1) (.int .i64 q1)) := by rw [← hW7]; exact ZP.out.put _ _
      have HB : Hid (Below w.heap.size w W7) := by rw [← hW7]; exact (Bw.out.setCell (show w.heap.size ≤ W0.heap.size by omega) _).setCell (show w.heap.size ≤ W0.heap.size by omega) _
      rw [hW7]
      clear hW7 zz0 zz1 zzf
      have HS7 : Hid (Ops w.heap.size gb (.slice A n cap) (.int .i64 q) b c W7) := ⟨HSw.out.1.of_block (hk7 _ (by omega)), (World.cell?_of_block (w := w1) (a := ⟨gb, 1, none⟩) (hk7 gb (by omega))).trans HSw.out.2.1, (World.cell?_of_block (w := w1) (a := ⟨gb, 2, none⟩) (hk7 gb (by omega))).trans HSw.out.2.2⟩
      have HY : Hid (Blk2 W7 (w.heap.size + 1) (.slice none 0 0) (.int .i64 0)) := Yw.out.of_block (hk7 _ (by omega))
      have HV : Hid (DV W7 (w.heap.size + 1 + 1) W7.heap.size A1 _) := DV.wide (lo := Wp.heap.size) (hi := w1.heap.size) (Vw.out.of_block fun k h1 h2 => hk7 k (by omega)) (by omega) (by omega)
      have hs7' : (w1).heap.size ≤ W7.heap.size := by omega
      clear hk7 hs7
      refine hJ.out _ _ HS7.out (fun _ => ?_)
      clear hJ J
      refine wpAnyH_ready (rs := [13]) (by kernel_rfl) (by simp) (AllReadyH.cons rfl (fun J hJ => ?_) AllReadyH.nil)
      go_simp
      refine hJ.out _ _ HS7.out (fun _ => ?_)
      clear hJ J
      refine wpAnyH_done (by kernel_rfl) ?_ _
      -- HP: the new heap's box at P in W; HY: the result's box; HB, HV
      go_wp2_with fail
      have HS5 : Hid (Blk2 (W7).drew W0.heap.size (.slice A1 n1 c1) (.int .i64 q1)) := HP.out
      obtain ⟨y0, y1, yf⟩ := HY.out.cells
      have hyl := HY.out.lt
      refine wp_region_held_drew (S := fun V => Blk2 V W0.heap.size (.slice A1 n1 c1) (.int .i64 q1)) (by kernel_rfl) HS5.out (fun _ => ?_)
      refine wpAnyH_take (i := 0) (v := (.agg #[.slice A1 n1 c1, .int .i64 q1])) rfl (by kernel_rfl) (by kernel_rfl) (by kernel_rfl) (fun _ _ _ h => h) (.inl ⟨rfl, fun V hS => ?y0⟩) (HS5).out ?_
      case y0 =>
        obtain ⟨s0, s1, s2⟩ := Blk2.cells hS
        go_simp
      go_simp
      refine wpAnyH_take (i := 1) (v := (.bool vb)) rfl (by kernel_rfl) (by kernel_rfl) (by kernel_rfl) (fun _ _ _ h => h) (.inl ⟨rfl, fun V hS => ?y0⟩) (HS5).out ?_
      case y0 =>
        obtain ⟨s0, s1, s2⟩ := Blk2.cells hS
        go_simp
      go_simp
      refine wpAnyH_ready (rs := [2]) (by kernel_rfl) (by simp) (AllReadyH.cons rfl (fun J hJ => ?_) AllReadyH.nil)
      go_simp
      refine (oneIf_any vb _).mono ?_
      rintro e w' ⟨rfl, rfl⟩
      refine hJ.out _ _ HS5.out (fun _ => ?_)
      clear hJ J
      refine wpAnyH_ready (rs := [3, 4]) (by kernel_rfl) (by simp) (AllReadyH.cons rfl (fun J hJ => ?_) (AllReadyH.cons rfl (fun J hJ => ?_) AllReadyH.nil))
      · go_simp
        obtain ⟨W6, hW6⟩ : ∃ W6, ((W7).alloc (.cells #[.int .i64 (b2i vb)] 3)).drew = W6 := ⟨_, rfl⟩
        have b6 : Below (W7).heap.size W7 W6 := by rw [← hW6]; exact (bel_alloc _ _).drew
        have R6 : Hid (RI W6 (W7).heap.size [b2i vb]) := by rw [← hW6]; exact (ri_one W7 (b2i vb) 3).of_block rfl
        have Z6 : Hid (W6.heap.size = (W7).heap.size + 1) := by
          show W6.heap.size = (W7).heap.size + 1
          rw [← hW6]
          exact World.size_alloc _ _
        have z6' : (W7).heap.size < W6.heap.size := by have := Z6.out; omega
        rw [hW6]
        clear hW6 y0 y1 yf
        have HS6 := Lib.hid (HP.out.below b6)
        have Y6 := Lib.hid (HY.out.below b6)
        refine hJ.out _ _ HS6.out (fun _ => ?_)
        clear hJ J
        obtain ⟨y0, y1, yf⟩ := Y6.out.cells
        have hyl6 := Y6.out.lt
        refine wpAnyH_ready (rs := [4]) (by kernel_rfl) (by simp) (AllReadyH.cons rfl (fun J hJ => ?_) AllReadyH.nil)
        go_simp
        obtain ⟨WF, hWF⟩ : ∃ WF, (W6.setCell ⟨w.heap.size + 1, 0, none⟩ (.slice A1 n1 c1)).setCell ⟨w.heap.size + 1, 1, none⟩ (.int .i64 q1) = WF := ⟨_, rfl⟩
        have hk : ∀ k, k ≠ w.heap.size + 1 → WF.heap[k]? = W6.heap[k]? := fun k hk => by rw [← hWF, heap_setCell_other _ _ _ _ hk, heap_setCell_other _ _ _ _ hk]
        have FK : Hid (∀ k, k < (W7).heap.size → k ≠ w.heap.size + 1 → WF.heap[k]? = (W7).heap[k]?) := fun k h1 h2 => (hk k h2).trans (b6.block k h1)
        have FY : Hid (Blk2 WF (w.heap.size + 1) (.slice A1 n1 c1) (.int .i64 q1)) := by rw [← hWF]; exact Y6.out.put _ _
        have FR : Hid (RI WF (W7).heap.size [b2i vb]) := R6.out.of_block (hk _ (by omega))
        have FZ : Hid (WF.heap.size = (W7).heap.size + 1) := by
          show WF.heap.size = (W7).heap.size + 1
          rw [← hWF, ← Z6.out]
          simp [World.setCell]
        have FB : Hid (Below w.heap.size w WF) := by rw [← hWF]; exact ((bel_trans HB.out b6).setCell (show w.heap.size ≤ w.heap.size + 1 by omega) _).setCell (show w.heap.size ≤ w.heap.size + 1 by omega) _
        have FS : Hid (Blk2 WF W0.heap.size (.slice A1 n1 c1) (.int .i64 q1)) := HS6.out.of_block (hk _ (by omega))
        rw [hWF]
        clear hWF hk b6
        refine hJ.out _ _ FS.out (fun _ => ?_)
        clear hJ J y0 y1 yf
        -- FK, FY, FR, FZ, FB: what the last world WF holds; S5: the new heap's box
        obtain ⟨f0, f1, ff⟩ := FY.out.cells
        refine wpAnyH_ready (rs := [5]) (by kernel_rfl) (by simp) (AllReadyH.cons rfl (fun J hJ => ?_) AllReadyH.nil)
        go_simp
        refine hJ.out _ _ FS.out (fun _ => ?_)
        clear hJ J
        refine wpAnyH_done (by kernel_rfl) ?_ _
        go_wp2
        refine bodyPost_ret (v := .tuple #[.agg #[.slice A1 n1 c1, .int .i64 q1], .slice (some ⟨((W7)).heap.size, 0, none⟩) 1 1]) (by simp [results, Try.results51, go_sem, f0, f1]) rfl (HConv.out _ _ ?_)
        refine ⟨A1, c1, ((W7)).heap.size, 1, by rw [Hn1.out]; rfl, .inl ?_, FR.out, by have := HB.out.size; omega, by have := FZ.out; omega, FB.out⟩
        refine DV.wide (lo := w.heap.size + 1 + 1) (hi := ((W7)).heap.size) ?_ (by omega) (by have := FZ.out; omega)
        exact HV.out.of_block fun k h1 h2 => FK.out k h2 (by omega)
      · go_simp
        obtain ⟨W6, hW6⟩ : ∃ W6, (((W7).setCell ⟨w.heap.size + 1, 0, none⟩ (.slice A1 n1 c1)).setCell ⟨w.heap.size + 1, 1, none⟩ (.int .i64 q1)).drew = W6 := ⟨_, rfl⟩
        have hk : ∀ k, k ≠ w.heap.size + 1 → W6.heap[k]? = (W7).heap[k]? := fun k hk => by
          rw [← hW6]
          show (((W7).setCell ⟨w.heap.size + 1, 0, none⟩ (.slice A1 n1 c1)).setCell ⟨w.heap.size + 1, 1, none⟩ (.int .i64 q1)).heap[k]? = _
          rw [heap_setCell_other _ _ _ _ hk, heap_setCell_other _ _ _ _ hk]
        have Y6 : Hid (Blk2 W6 (w.heap.size + 1) (.slice A1 n1 c1) (.int .i64 q1)) := by rw [← hW6]; exact HY.out.put _ _
        have Z6 : Hid (W6.heap.size = (W7).heap.size) := by
          show W6.heap.size = (W7).heap.size
          rw [← hW6]
          show (((W7).setCell ⟨w.heap.size + 1, 0, none⟩ (.slice A1 n1 c1)).setCell ⟨w.heap.size + 1, 1, none⟩ (.int .i64 q1)).heap.size = _
          simp [World.setCell]
        have B6 : Hid (Below w.heap.size w W6) := by rw [← hW6]; exact ((HB.out.setCell (show w.heap.size ≤ w.heap.size + 1 by omega) _).setCell (show w.heap.size ≤ w.heap.size + 1 by omega) _).drew
        have HS6 : Hid (Blk2 W6 W0.heap.size (.slice A1 n1 c1) (.int .i64 q1)) := HP.out.of_block (hk _ (by omega))
        rw [hW6]
        clear hW6 y0 y1 yf
        refine hJ.out _ _ HS6.out (fun _ => ?_)
        clear hJ J
        refine wpAnyH_ready (rs := [3]) (by kernel_rfl) (by simp) (AllReadyH.cons rfl (fun J hJ => ?_) AllReadyH.nil)
        go_simp
        obtain ⟨WF, hWF⟩ : ∃ WF, W6.alloc (.cells #[.int .i64 (b2i vb)] 3) = WF := ⟨_, rfl⟩
        have b6 : Below W6.heap.size W6 WF := by rw [← hWF]; exact bel_alloc _ _
        have FK : Hid (∀ k, k < (W7).heap.size → k ≠ w.heap.size + 1 → WF.heap[k]? = (W7).heap[k]?) := fun k h1 h2 => (b6.block k (by have := Z6.out; omega)).trans (hk k h2)
        have FY : Hid (Blk2 WF (w.heap.size + 1) (.slice A1 n1 c1) (.int .i64 q1)) := Y6.out.below b6
        have FR : Hid (RI WF (W7).heap.size [b2i vb]) := by rw [← Z6.out, ← hWF]; exact ri_one W6 (b2i vb) 3
        have FZ : Hid (WF.heap.size = (W7).heap.size + 1) := by
          show WF.heap.size = (W7).heap.size + 1
          rw [← Z6.out, ← hWF]
          exact World.size_alloc _ _
        have FB : Hid (Below w.heap.size w WF) := bel_trans B6.out b6
        have FS : Hid (Blk2 WF W0.heap.size (.slice A1 n1 c1) (.int .i64 q1)) := HS6.out.below b6
        rw [hWF, Z6.out]
        clear hWF hk b6
        refine hJ.out _ _ FS.out (fun _ => ?_)
        clear hJ J
        -- FK, FY, FR, FZ, FB: what the last world WF holds; S5: the new heap's box
        obtain ⟨f0, f1, ff⟩ := FY.out.cells
        refine wpAnyH_ready (rs := [5]) (by kernel_rfl) (by simp) (AllReadyH.cons rfl (fun J hJ => ?_) AllReadyH.nil)
        go_simp
        refine hJ.out _ _ FS.out (fun _ => ?_)
        clear hJ J
        refine wpAnyH_done (by kernel_rfl) ?_ _
        go_wp2
        refine bodyPost_ret (v := .tuple #[.agg #[.slice A1 n1 c1, .int .i64 q1], .slice (some ⟨((W7)).heap.size, 0, none⟩) 1 1]) (by simp [results, Try.results51, go_sem, f0, f1]) rfl (HConv.out _ _ ?_)
        refine ⟨A1, c1, ((W7)).heap.size, 1, by rw [Hn1.out]; rfl, .inl ?_, FR.out, by have := HB.out.size; omega, by have := FZ.out; omega, FB.out⟩
        refine DV.wide (lo := w.heap.size + 1 + 1) (hi := ((W7)).heap.size) ?_ (by omega) (by have := FZ.out; omega)
        exact HV.out.of_block fun k h1 h2 => FK.out k h2 (by omega)
        skip
  by_cases ha1 : a = 1
  · subst ha1
    have e1 : stpD ds q [1, b, c] = canD ds q b := by simp [stpD]
    have e2 : stpQ ds q [1, b, c] = q := by simp [stpQ]
    have e3 : stpL ds q [1, b, c] = [b2i (canB ds q b)] := by simp [stpL]
    rw [e1, e2, e3]
    clear e1 e2 e3
    go_enter Try.func51, Try.ntmps51
    go_wp2_with fail
    obtain ⟨W0, hW0⟩ : ∃ W0, (w.alloc (.cells #[.slice A n cap, .int .i64 q] 28)).alloc (.cells #[.slice none 0 0, .int .i64 0] 28) = W0 := ⟨_, rfl⟩
    have B0 : Hid (Below w.heap.size w W0) := by rw [← hW0]; exact ((Below.refl _ _).alloc (Nat.le_refl _) _).alloc (by simp) _
    have X0 : Hid (Blk2 W0 w.heap.size (.slice A n cap) (.int .i64 q)) := by rw [← hW0]; exact Blk2.alloc (heap_alloc_new w _) _
    have Y0 : Hid (Blk2 W0 (w.heap.size + 1) (.slice none 0 0) (.int .i64 0)) := by
      have h := heap_alloc_new (w.alloc (.cells #[.slice A n cap, .int .i64 q] 28)) (.cells #[.slice none 0 0, .int .i64 0] 28)
      rw [World.size_alloc, hW0] at h
      exact h
    have z0 : w.heap.size + 1 < W0.heap.size := Y0.out.lt
    rw [hW0]
    clear hW0
    have HS0 : Hid (Ops w.heap.size gb (.slice A n cap) (.int .i64 q) b c W0.drew) := ⟨X0.out, bkeep k1 B0.out.drew, bkeep k2 B0.out.drew⟩
    refine wp_region_held_drew (S := Ops w.heap.size gb (.slice A n cap) (.int .i64 q) b c) (by kernel_rfl) HS0.out (fun _ => ?_)
    refine wpAnyH_take (i := 0) (v := (.agg #[.slice A n cap, .int .i64 q])) rfl (by kernel_rfl) (by kernel_rfl) (by kernel_rfl) (fun _ _ _ h => h) (.inl ⟨rfl, fun V hS => ?y0⟩) (HS0).out ?_
    case y0 =>
      obtain ⟨s0, s1, s2⟩ := hS.1.cells
      obtain ⟨_, s3, s4⟩ := hS
      go_simp
    go_simp
    refine wpAnyH_take (i := 1) (v := (.slice (some ⟨gb, 0, none⟩) 3 3)) rfl (by kernel_rfl) (by kernel_rfl) (by kernel_rfl) (fun _ _ _ h => h) (.inl ⟨rfl, fun V hS => ?y0⟩) (HS0).out ?_
    case y0 =>
      obtain ⟨s0, s1, s2⟩ := hS.1.cells
      obtain ⟨_, s3, s4⟩ := hS
      go_simp
    go_simp
    refine wpAnyH_take (i := 2) (v := (.pointer (some ⟨gb, 1, none⟩))) rfl (by kernel_rfl) (by kernel_rfl) (by kernel_rfl) (fun _ _ _ h => h) (.inl ⟨rfl, fun V hS => ?y0⟩) (HS0).out ?_
    case y0 =>
      obtain ⟨s0, s1, s2⟩ := hS.1.cells
      obtain ⟨_, s3, s4⟩ := hS
      go_simp
    go_simp
    refine wpAnyH_take (i := 3) (v := (.int .i64 b)) rfl (by kernel_rfl) (by kernel_rfl) (by kernel_rfl) (fun _ _ _ h => h) (.inl ⟨rfl, fun V hS => ?y0⟩) (HS0).out ?_
    case y0 =>
      obtain ⟨s0, s1, s2⟩ := hS.1.cells
      obtain ⟨_, s3, s4⟩ := hS
      go_simp
    go_simp
    refine wpAnyH_ready (rs := [4, 8]) (by kernel_rfl) (by simp) (AllReadyH.cons rfl (fun J hJ => ?_) (AllReadyH.cons rfl (fun J hJ => ?_) AllReadyH.nil))
    · go_simp
      refine (implCancel_any A n cap lo hi ds q b W0.drew Hn.out (by omega) (HI.out.below B0.out.drew hs) (by have := B0.out.size; show hi ≤ W0.heap.size; omega)).mono ?_
      rintro e w1 ⟨A1, c1, rfl, v1, b1⟩
      have b01 := bel_of_drew b1
      have HS1 := Lib.hid (HS0.out.below b1)
      have V1 := Lib.hid v1
      have B1 := Lib.hid (bel_trans B0.out b01)
      have Y1 := Lib.hid (Y0.out.below b01)
      have z1 : W0.heap.size ≤ w1.heap.size := b01.size
      clear b1 b01 v1
      obtain ⟨n1, hn1⟩ : ∃ n1, (canD ds q b).length = n1 := ⟨_, rfl⟩
      have Hn1 := Lib.hid hn1
      obtain ⟨q1, HQ1⟩ : ∃ q1, Hid (q = q1) := ⟨q, rfl⟩
      obtain ⟨vb, hvb⟩ : ∃ vb, canB ds q b = vb := ⟨_, rfl⟩
      have HConv : Hid (∀ e w', StepEnd w A ds (canD ds q b) q [b2i vb] e w' → StepEnd w A ds (canD ds q b) q [b2i (canB ds q b)] e w') := fun e w' h => by rw [hvb]; exact h
      rw [hn1, hvb]
      clear hn1 hvb
      refine hJ.out _ _ HS1.out (fun _ => ?_)
      clear hJ J
      go_simp
      refine wpAnyH_take (i := 5) (v := (.tuple #[.agg #[.slice A1 n1 c1, .int .i64 q], .bool vb])) rfl (by kernel_rfl) (by kernel_rfl) (by kernel_rfl) (fun _ _ _ h => h) (.inl ⟨rfl, fun V hS => ?y0⟩) (HS1).out ?_
      case y0 =>
        obtain ⟨s0, s1, s2⟩ := hS.1.cells
        obtain ⟨_, s3, s4⟩ := hS
        go_simp
      go_simp
      refine wpAnyH_take (i := 6) (v := (.agg #[.slice A1 n1 c1, .int .i64 q])) rfl (by kernel_rfl) (by kernel_rfl) (by kernel_rfl) (fun _ _ _ h => h) (.inl ⟨rfl, fun V hS => ?y0⟩) (HS1).out ?_
      case y0 =>
        obtain ⟨s0, s1, s2⟩ := hS.1.cells
        obtain ⟨_, s3, s4⟩ := hS
        go_simp
      go_simp
      refine wpAnyH_take (i := 7) (v := (.bool vb)) rfl (by kernel_rfl) (by kernel_rfl) (by kernel_rfl) (fun _ _ _ h => h) (.inl ⟨rfl, fun V hS => ?y0⟩) (HS1).out ?_
      case y0 =>
        obtain ⟨s0, s1, s2⟩ := hS.1.cells
        obtain ⟨_, s3, s4⟩ := hS
        go_simp
      go_simp
      refine wpAnyH_ready (rs := [8]) (by kernel_rfl) (by simp) (AllReadyH.cons rfl (fun J hJ => ?_) AllReadyH.nil)
      go_simp
      obtain ⟨Wp, hWp⟩ : ∃ Wp, w1.alloc (.cells #[.slice none 0 0, .int .i64 0] 28) = Wp := ⟨_, rfl⟩
      have bp : Below w1.heap.size w1 Wp := by rw [← hWp]; exact bel_alloc _ _
      have ZP : Hid (Blk2 Wp w1.heap.size (.slice none 0 0) (.int .i64 0)) := by rw [← hWp]; exact heap_alloc_new w1 _
      rw [hWp]
      clear hWp
      have HSw := Lib.hid (HS1.out.below bp)
      have Yw := Lib.hid (Y1.out.below bp)
      have Bw := Lib.hid (bel_trans B1.out bp)
      have Vw := Lib.hid (V1.out.below bp (Nat.le_refl _))
      clear bp
      refine hJ.out _ _ HSw.out (fun _ => ?_)
      clear hJ J
      -- ZP: the box at P in W is new; HSw: what is read; Yw, Bw, Vw
      obtain ⟨zz0, zz1, zzf⟩ := ZP.out.cells
      have hpl := ZP.out.lt
      refine wpAnyH_ready (rs := [9]) (by kernel_rfl) (by simp) (AllReadyH.cons rfl (fun J hJ => ?_) AllReadyH.nil)
      go_simp
      obtain ⟨W7, hW7⟩ : ∃ W7, ((Wp).setCell ⟨w1.heap.size, 0, none⟩ (.slice A1 n1 c1)).setCell ⟨w1.heap.size, 1, none⟩ (.int .i64 q) = W7 := ⟨_, rfl⟩
      have hk7 : ∀ k, k ≠ w1.heap.size → W7.heap[k]? = (Wp).heap[k]? := fun k hk => by rw [← hW7, heap_setCell_other _ _ _ _ hk, heap_setCell_other _ _ _ _ hk]
      have hs7 : W7.heap.size = (Wp).heap.size := by rw [← hW7]; simp [World.setCell]
      have HP : Hid (Blk2 W7 w1.heap.size (.slice A1 n1 c1) (.int .i64 q)) := by rw [← hW7]; exact ZP.out.put _ _
      have HB : Hid (Below w.heap.size w W7) := by rw [← hW7]; exact (Bw.out.setCell (show w.heap.size ≤ w1.heap.size by omega) _).setCell (show w.heap.size ≤ w1.heap.size by omega) _
      rw [hW7]
      clear hW7 zz0 zz1 zzf
      have HS7 : Hid (Ops w.heap.size gb (.slice A n cap) (.int .i64 q) b c W7) := ⟨HSw.out.1.of_block (hk7 _ (by omega)), (World.cell?_of_block (w := Wp) (a := ⟨gb, 1, none⟩) (hk7 gb (by omega))).trans HSw.out.2.1, (World.cell?_of_block (w := Wp) (a := ⟨gb, 2, none⟩) (hk7 gb (by omega))).trans HSw.out.2.2⟩
      have HY : Hid (Blk2 W7 (w.heap.size + 1) (.slice none 0 0) (.int .i64 0)) := Yw.out.of_block (hk7 _ (by omega))
      have HV : Hid (DV W7 (w.heap.size + 1 + 1) W7.heap.size A1 _) := DV.wide (lo := W0.heap.size) (hi := w1.heap.size) (Vw.out.of_block fun k h1 h2 => hk7 k (by omega)) (by omega) (by omega)
      have HVN : Hid (DV W7 W0.heap.size w1.heap.size A1 _) := Vw.out.of_block fun k h1 h2 => hk7 k (by omega)
      have HK7 := Lib.hid hk7
      have hs7' : (Wp).heap.size ≤ W7.heap.size := by omega
      clear hk7 hs7
      refine hJ.out _ _ HS7.out (fun _ => ?_)
      clear hJ J
      refine wpAnyH_ready (rs := [10]) (by kernel_rfl) (by simp) (AllReadyH.cons rfl (fun J hJ => ?_) AllReadyH.nil)
      go_simp
      refine hJ.out _ _ HS7.out (fun _ => ?_)
      clear hJ J
      refine wpAnyH_done (by kernel_rfl) ?_ _
      -- HP: the new heap's box at P in W; HY: the result's box; HB, HV
      go_wp2_with fail
      have HS5 : Hid (Blk2 (W7).drew w1.heap.size (.slice A1 n1 c1) (.int .i64 q)) := HP.out
      obtain ⟨y0, y1, yf⟩ := HY.out.cells
      have hyl := HY.out.lt
      refine wp_region_held_drew (S := fun V => Blk2 V w1.heap.size (.slice A1 n1 c1) (.int .i64 q)) (by kernel_rfl) HS5.out (fun _ => ?_)
      refine wpAnyH_take (i := 0) (v := (.agg #[.slice A1 n1 c1, .int .i64 q])) rfl (by kernel_rfl) (by kernel_rfl) (by kernel_rfl) (fun _ _ _ h => h) (.inl ⟨rfl, fun V hS => ?y0⟩) (HS5).out ?_
      case y0 =>
        obtain ⟨s0, s1, s2⟩ := Blk2.cells hS
        go_simp
      go_simp
      refine wpAnyH_take (i := 1) (v := (.bool vb)) rfl (by kernel_rfl) (by kernel_rfl) (by kernel_rfl) (fun _ _ _ h => h) (.inl ⟨rfl, fun V hS => ?y0⟩) (HS5).out ?_
      case y0 =>
        obtain ⟨s0, s1, s2⟩ := Blk2.cells hS
        go_simp
      go_simp
      refine wpAnyH_ready (rs := [2]) (by kernel_rfl) (by simp) (AllReadyH.cons rfl (fun J hJ => ?_) AllReadyH.nil)
      go_simp
      refine (oneIf_any vb _).mono ?_
      rintro e w' ⟨rfl, rfl⟩
      refine hJ.out _ _ HS5.out (fun _ => ?_)
      clear hJ J
      refine wpAnyH_ready (rs := [3, 4]) (by kernel_rfl) (by simp) (AllReadyH.cons rfl (fun J hJ => ?_) (AllReadyH.cons rfl (fun J hJ => ?_) AllReadyH.nil))
      · go_simp
        obtain ⟨W6, hW6⟩ : ∃ W6, ((W7).alloc (.cells #[.int .i64 (b2i vb)] 3)).drew = W6 := ⟨_, rfl⟩
        have b6 : Below (W7).heap.size W7 W6 := by rw [← hW6]; exact (bel_alloc _ _).drew
        have R6 : Hid (RI W6 (W7).heap.size [b2i vb]) := by rw [← hW6]; exact (ri_one W7 (b2i vb) 3).of_block rfl
        have Z6 : Hid (W6.heap.size = (W7).heap.size + 1) := by
          show W6.heap.size = (W7).heap.size + 1
          rw [← hW6]
          exact World.size_alloc _ _
        have z6' : (W7).heap.size < W6.heap.size := by have := Z6.out; omega
        rw [hW6]
        clear hW6 y0 y1 yf
        have HS6 := Lib.hid (HP.out.below b6)
        have Y6 := Lib.hid (HY.out.below b6)
        refine hJ.out _ _ HS6.out (fun _ => ?_)
        clear hJ J
        obtain ⟨y0, y1, yf⟩ := Y6.out.cells
        have hyl6 := Y6.out.lt
        refine wpAnyH_ready (rs := [4]) (by kernel_rfl) (by simp) (AllReadyH.cons rfl (fun J hJ => ?_) AllReadyH.nil)
        go_simp
        obtain ⟨WF, hWF⟩ : ∃ WF, (W6.setCell ⟨w.heap.size + 1, 0, none⟩ (.slice A1 n1 c1)).setCell ⟨w.heap.size + 1, 1, none⟩ (.int .i64 q) = WF := ⟨_, rfl⟩
        have hk : ∀ k, k ≠ w.heap.size + 1 → WF.heap[k]? = W6.heap[k]? := fun k hk => by rw [← hWF, heap_setCell_other _ _ _ _ hk, heap_setCell_other _ _ _ _ hk]
        have FK : Hid (∀ k, k < (W7).heap.size → k ≠ w.heap.size + 1 → WF.heap[k]? = (W7).heap[k]?) := fun k h1 h2 => (hk k h2).trans (b6.block k h1)
        have FY : Hid (Blk2 WF (w.heap.size + 1) (.slice A1 n1 c1) (.int .i64 q)) := by rw [← hWF]; exact Y6.out.put _ _
        have FR : Hid (RI WF (W7).heap.size [b2i vb]) := R6.out.of_block (hk _ (by omega))
        have FZ : Hid (WF.heap.size = (W7).heap.size + 1) := by
          show WF.heap.size = (W7).heap.size + 1
          rw [← hWF, ← Z6.out]
          simp [World.setCell]
        have FB : Hid (Below w.heap.size w WF) := by rw [← hWF]; exact ((bel_trans HB.out b6).setCell (show w.heap.size ≤ w.heap.size + 1 by omega) _).setCell (show w.heap.size ≤ w.heap.size + 1 by omega) _
        have FS : Hid (Blk2 WF w1.heap.size (.slice A1 n1 c1) (.int .i64 q)) := HS6.out.of_block (hk _ (by omega))
        rw [hWF]
        clear hWF hk b6
        refine hJ.out _ _ FS.out (fun _ => ?_)
        clear hJ J y0 y1 yf
        -- FK, FY, FR, FZ, FB: what the last world WF holds; S5: the new heap's box
        obtain ⟨f0, f1, ff⟩ := FY.out.cells
        refine wpAnyH_ready (rs := [5]) (by kernel_rfl) (by simp) (AllReadyH.cons rfl (fun J hJ => ?_) AllReadyH.nil)
        go_simp
        refine hJ.out _ _ FS.out (fun _ => ?_)
        clear hJ J
        refine wpAnyH_done (by kernel_rfl) ?_ _
        go_wp2
        refine bodyPost_ret (v := .tuple #[.agg #[.slice A1 n1 c1, .int .i64 q], .slice (some ⟨((W7)).heap.size, 0, none⟩) 1 1]) (by simp [results, Try.results51, go_sem, f0, f1]) rfl (HConv.out _ _ ?_)
        refine ⟨A1, c1, ((W7)).heap.size, 1, by rw [Hn1.out]; rfl, .inl ?_, FR.out, by have := HB.out.size; omega, by have := FZ.out; omega, FB.out⟩
        refine DV.wide (lo := w.heap.size + 1 + 1) (hi := ((W7)).heap.size) ?_ (by omega) (by have := FZ.out; omega)
        exact HV.out.of_block fun k h1 h2 => FK.out k h2 (by omega)
      · go_simp
        obtain ⟨W6, hW6⟩ : ∃ W6, (((W7).setCell ⟨w.heap.size + 1, 0, none⟩ (.slice A1 n1 c1)).setCell ⟨w.heap.size + 1, 1, none⟩ (.int .i64 q)).drew = W6 := ⟨_, rfl⟩
        have hk : ∀ k, k ≠ w.heap.size + 1 → W6.heap[k]? = (W7).heap[k]? := fun k hk => by
          rw [← hW6]
          show (((W7).setCell ⟨w.heap.size + 1, 0, none⟩ (.slice A1 n1 c1)).setCell ⟨w.heap.size + 1, 1, none⟩ (.int .i64 q)).heap[k]? = _
          rw [heap_setCell_other _ _ _ _ hk, heap_setCell_other _ _ _ _ hk]
        have Y6 : Hid (Blk2 W6 (w.heap.size + 1) (.slice A1 n1 c1) (.int .i64 q)) := by rw [← hW6]; exact HY.out.put _ _
        have Z6 : Hid (W6.heap.size = (W7).heap.size) := by
          show W6.heap.size = (W7).heap.size
          rw [← hW6]
          show (((W7).setCell ⟨w.heap.size + 1, 0, none⟩ (.slice A1 n1 c1)).setCell ⟨w.heap.size + 1, 1, none⟩ (.int .i64 q)).heap.size = _
          simp [World.setCell]
        have B6 : Hid (Below w.heap.size w W6) := by rw [← hW6]; exact ((HB.out.setCell (show w.heap.size ≤ w.heap.size + 1 by omega) _).setCell (show w.heap.size ≤ w.heap.size + 1 by omega) _).drew
        have HS6 : Hid (Blk2 W6 w1.heap.size (.slice A1 n1 c1) (.int .i64 q)) := HP.out.of_block (hk _ (by omega))
        rw [hW6]
        clear hW6 y0 y1 yf
        refine hJ.out _ _ HS6.out (fun _ => ?_)
        clear hJ J
        refine wpAnyH_ready (rs := [3]) (by kernel_rfl) (by simp) (AllReadyH.cons rfl (fun J hJ => ?_) AllReadyH.nil)
        go_simp
        obtain ⟨WF, hWF⟩ : ∃ WF, W6.alloc (.cells #[.int .i64 (b2i vb)] 3) = WF := ⟨_, rfl⟩
        have b6 : Below W6.heap.size W6 WF := by rw [← hWF]; exact bel_alloc _ _
        have FK : Hid (∀ k, k < (W7).heap.size → k ≠ w.heap.size + 1 → WF.heap[k]? = (W7).heap[k]?) := fun k h1 h2 => (b6.block k (by have := Z6.out; omega)).trans (hk k h2)
        have FY : Hid (Blk2 WF (w.heap.size + 1) (.slice A1 n1 c1) (.int .i64 q)) := Y6.out.below b6
        have FR : Hid (RI WF (W7).heap.size [b2i vb]) := by rw [← Z6.out, ← hWF]; exact ri_one W6 (b2i vb) 3
        have FZ : Hid (WF.heap.size = (W7).heap.size + 1) := by
          show WF.heap.size = (W7).heap.size + 1
          rw [← Z6.out, ← hWF]
          exact World.size_alloc _ _
        have FB : Hid (Below w.heap.size w WF) := bel_trans B6.out b6
        have FS : Hid (Blk2 WF w1.heap.size (.slice A1 n1 c1) (.int .i64 q)) := HS6.out.below b6
        rw [hWF, Z6.out]
        clear hWF hk b6
        refine hJ.out _ _ FS.out (fun _ => ?_)
        clear hJ J
        -- FK, FY, FR, FZ, FB: what the last world WF holds; S5: the new heap's box
        obtain ⟨f0, f1, ff⟩ := FY.out.cells
        refine wpAnyH_ready (rs := [5]) (by kernel_rfl) (by simp) (AllReadyH.cons rfl (fun J hJ => ?_) AllReadyH.nil)
        go_simp
        refine hJ.out _ _ FS.out (fun _ => ?_)
        clear hJ J
        refine wpAnyH_done (by kernel_rfl) ?_ _
        go_wp2
        refine bodyPost_ret (v := .tuple #[.agg #[.slice A1 n1 c1, .int .i64 q], .slice (some ⟨((W7)).heap.size, 0, none⟩) 1 1]) (by simp [results, Try.results51, go_sem, f0, f1]) rfl (HConv.out _ _ ?_)
        refine ⟨A1, c1, ((W7)).heap.size, 1, by rw [Hn1.out]; rfl, .inl ?_, FR.out, by have := HB.out.size; omega, by have := FZ.out; omega, FB.out⟩
        refine DV.wide (lo := w.heap.size + 1 + 1) (hi := ((W7)).heap.size) ?_ (by omega) (by have := FZ.out; omega)
        exact HV.out.of_block fun k h1 h2 => FK.out k h2 (by omega)
        skip
    · go_simp
      obtain ⟨Wp, hWp⟩ : ∃ Wp, (W0.alloc (.cells #[.slice none 0 0, .int .i64 0] 28)).drew = Wp := ⟨_, rfl⟩
      have bp : Below W0.heap.size W0 Wp := by rw [← hWp]; exact (bel_alloc _ _).drew
      have ZP0 : Hid (Blk2 Wp W0.heap.size (.slice none 0 0) (.int .i64 0)) := by rw [← hWp]; exact heap_alloc_new W0 _
      have zp : W0.heap.size < Wp.heap.size := ZP0.out.lt
      rw [hWp]
      clear hWp
      have HSp : Hid (Ops w.heap.size gb (.slice A n cap) (.int .i64 q) b c Wp) := Ops.below (V := W0) HS0.out bp
      have BP := Lib.hid (bel_trans B0.out bp)
      have YP := Lib.hid (Y0.out.below bp)
      clear bp
      refine hJ.out _ _ HSp.out (fun _ => ?_)
      clear hJ J
      refine wpAnyH_ready (rs := [4]) (by kernel_rfl) (by simp) (AllReadyH.cons rfl (fun J hJ => ?_) AllReadyH.nil)
      go_simp
      refine (implCancel_any A n cap lo hi ds q b Wp Hn.out (by omega) (HI.out.below BP.out hs) (by have := BP.out.size; omega)).mono ?_
      rintro e w1 ⟨A1, c1, rfl, v1, b1⟩
      have HS1 := Lib.hid (HSp.out.below b1)
      have HSw := HS1
      have Vw := Lib.hid v1
      have Bw := Lib.hid (bel_trans BP.out b1)
      have Yw := Lib.hid (YP.out.below b1)
      have ZP := Lib.hid (ZP0.out.below b1)
      have z1 : Wp.heap.size ≤ w1.heap.size := b1.size
      clear b1 v1
      obtain ⟨n1, hn1⟩ : ∃ n1, (canD ds q b).length = n1 := ⟨_, rfl⟩
      have Hn1 := Lib.hid hn1
      obtain ⟨q1, HQ1⟩ : ∃ q1, Hid (q = q1) := ⟨q, rfl⟩
      obtain ⟨vb, hvb⟩ : ∃ vb, canB ds q b = vb := ⟨_, rfl⟩
      have HConv : Hid (∀ e w', StepEnd w A ds (canD ds q b) q [b2i vb] e w' → StepEnd w A ds (canD ds q b) q [b2i (canB ds q b)] e w') := fun e w' h => by rw [hvb]; exact h
      rw [hn1, hvb]
      clear hn1 hvb
      refine hJ.out _ _ HS1.out (fun _ => ?_)
      clear hJ J
      go_simp
      refine wpAnyH_take (i := 5) (v := (.tuple #[.agg #[.slice A1 n1 c1, .int .i64 q], .bool vb])) rfl (by kernel_rfl) (by kernel_rfl) (by kernel_rfl) (fun _ _ _ h => h) (.inl ⟨rfl, fun V hS => ?y0⟩) (HS1).out ?_
      case y0 =>
        obtain ⟨s0, s1, s2⟩ := hS.1.cells
        obtain ⟨_, s3, s4⟩ := hS
        go_simp
      go_simp
      refine wpAnyH_take (i := 6) (v := (.agg #[.slice A1 n1 c1, .int .i64 q])) rfl (by kernel_rfl) (by kernel_rfl) (by kernel_rfl) (fun _ _ _ h => h) (.inl ⟨rfl, fun V hS => ?y0⟩) (HS1).out ?_
      case y0 =>
        obtain ⟨s0, s1, s2⟩ := hS.1.cells
        obtain ⟨_, s3, s4⟩ := hS
        go_simp
      go_simp
      refine wpAnyH_take (i := 7) (v := (.bool vb)) rfl (by kernel_rfl) (by kernel_rfl) (by kernel_rfl) (fun _ _ _ h => h) (.inl ⟨rfl, fun V hS => ?y0⟩) (HS1).out ?_
      case y0 =>
        obtain ⟨s0, s1, s2⟩ := hS.1.cells
        obtain ⟨_, s3, s4⟩ := hS
        go_simp
      go_simp
      -- ZP: the box at P in W is new; HSw: what is read; Yw, Bw, Vw
      obtain ⟨zz0, zz1, zzf⟩ := ZP.out.cells
      have hpl := ZP.out.lt
      refine wpAnyH_ready (rs := [9]) (by kernel_rfl) (by simp) (AllReadyH.cons rfl (fun J hJ => ?_) AllReadyH.nil)
      go_simp
      obtain ⟨W7, hW7⟩ : ∃ W7, ((w1).setCell ⟨W0.heap.size, 0, none⟩ (.slice A1 n1 c1)).setCell ⟨W0.heap.size, 1, none⟩ (.int .i64 q) = W7 := ⟨_, rfl⟩
      have hk7 : ∀ k, k ≠ W0.heap.size → W7.heap[k]? = (w1).heap[k]? := fun k hk => by rw [← hW7, heap_setCell_other _ _ _ _ hk, heap_setCell_other _ _ _ _ hk]
      have hs7 : W7.heap.size = (w1).heap.size := by rw [← hW7]; simp [World.setCell]
      have HP : Hid (Blk2 W7 W0.heap.size (.slice A1 n1 c1) (.int .i64 q)) := by rw [← hW7]; exact ZP.out.put _ _
      have HB : Hid (Below w.heap.size w W7) := by rw [← hW7]; exact (Bw.out.setCell (show w.heap.size ≤ W0.heap.size by omega) _).setCell (show w.heap.size ≤ W0.heap.size by omega) _
      rw [hW7]
      clear hW7 zz0 zz1 zzf
      have HS7 : Hid (Ops w.heap.size gb (.slice A n cap) (.int .i64 q) b c W7) := ⟨HSw.out.1.of_block (hk7 _ (by omega)), (World.cell?_of_block (w := w1) (a := ⟨gb, 1, none⟩) (hk7 gb (by omega))).trans HSw.out.2.1, (World.cell?_of_block (w := w1) (a := ⟨gb, 2, none⟩) (hk7 gb (by omega))).trans HSw.out.2.2⟩
      have HY : Hid (Blk2 W7 (w.heap.size + 1) (.slice none 0 0) (.int .i64 0)) := Yw.out.of_block (hk7 _ (by omega))
      have HV : Hid (DV W7 (w.heap.size + 1 + 1) W7.heap.size A1 _) := DV.wide (lo := Wp.heap.size) (hi := w1.heap.size) (Vw.out.of_block fun k h1 h2 => hk7 k (by omega)) (by omega) (by omega)
      have HVN : Hid (DV W7 Wp.heap.size w1.heap.size A1 _) := Vw.out.of_block fun k h1 h2 => hk7 k (by omega)
      have HK7 := Lib.hid hk7
      have hs7' : (w1).heap.size ≤ W7.heap.size := by omega
      clear hk7 hs7
      refine hJ.out _ _ HS7.out (fun _ => ?_)
      clear hJ J
      refine wpAnyH_ready (rs := [10]) (by kernel_rfl) (by simp) (AllReadyH.cons rfl (fun J hJ => ?_) AllReadyH.nil)
      go_simp
      refine hJ.out _ _ HS7.out (fun _ => ?_)
      clear hJ J
      refine wpAnyH_done (by kernel_rfl) ?_ _
      -- HP: the new heap's box at P in W; HY: the result's box; HB, HV
      go_wp2_with fail
      have HS5 : Hid (Blk2 (W7).drew W0.heap.size (.slice A1 n1 c1) (.int .i64 q)) := HP.out
      obtain ⟨y0, y1, yf⟩ := HY.out.cells
      have hyl := HY.out.lt
      refine wp_region_held_drew (S := fun V => Blk2 V W0.heap.size (.slice A1 n1 c1) (.int .i64 q)) (by kernel_rfl) HS5.out (fun _ => ?_)
      refine wpAnyH_take (i := 0) (v := (.agg #[.slice A1 n1 c1, .int .i64 q])) rfl (by kernel_rfl) (by kernel_rfl) (by kernel_rfl) (fun _ _ _ h => h) (.inl ⟨rfl, fun V hS => ?y0⟩) (HS5).out ?_
      case y0 =>
        obtain ⟨s0, s1, s2⟩ := Blk2.cells hS
        go_simp
      go_simp
      refine wpAnyH_take (i := 1) (v := (.bool vb)) rfl (by kernel_rfl) (by kernel_rfl) (by kernel_rfl) (fun _ _ _ h => h) (.inl ⟨rfl, fun V hS => ?y0⟩) (HS5).out ?_
      case y0 =>
        obtain ⟨s0, s1, s2⟩ := Blk2.cells hS
        go_simp
      go_simp
      refine wpAnyH_ready (rs := [2]) (by kernel_rfl) (by simp) (AllReadyH.cons rfl (fun J hJ => ?_) AllReadyH.nil)
      go_simp
      refine (oneIf_any vb _).mono ?_
      rintro e w' ⟨rfl, rfl⟩
      refine hJ.out _ _ HS5.out (fun _ => ?_)
      clear hJ J
      refine wpAnyH_ready (rs := [3, 4]) (by kernel_rfl) (by simp) (AllReadyH.cons rfl (fun J hJ => ?_) (AllReadyH.cons rfl (fun J hJ => ?_) AllReadyH.nil))
      · go_simp
        obtain ⟨W6, hW6⟩ : ∃ W6, ((W7).alloc (.cells #[.int .i64 (b2i vb)] 3)).drew = W6 := ⟨_, rfl⟩
        have b6 : Below (W7).heap.size W7 W6 := by rw [← hW6]; exact (bel_alloc _ _).drew
        have R6 : Hid (RI W6 (W7).heap.size [b2i vb]) := by rw [← hW6]; exact (ri_one W7 (b2i vb) 3).of_block rfl
        have Z6 : Hid (W6.heap.size = (W7).heap.size + 1) := by
          show W6.heap.size = (W7).heap.size + 1
          rw [← hW6]
          exact World.size_alloc _ _
        have z6' : (W7).heap.size < W6.heap.size := by have := Z6.out; omega
        rw [hW6]
        clear hW6 y0 y1 yf
        have HS6 := Lib.hid (HP.out.below b6)
        have Y6 := Lib.hid (HY.out.below b6)
        refine hJ.out _ _ HS6.out (fun _ => ?_)
        clear hJ J
        obtain ⟨y0, y1, yf⟩ := Y6.out.cells
        have hyl6 := Y6.out.lt
        refine wpAnyH_ready (rs := [4]) (by kernel_rfl) (by simp) (AllReadyH.cons rfl (fun J hJ => ?_) AllReadyH.nil)
        go_simp
        obtain ⟨WF, hWF⟩ : ∃ WF, (W6.setCell ⟨w.heap.size + 1, 0, none⟩ (.slice A1 n1 c1)).setCell ⟨w.heap.size + 1, 1, none⟩ (.int .i64 q) = WF := ⟨_, rfl⟩
        have hk : ∀ k, k ≠ w.heap.size + 1 → WF.heap[k]? = W6.heap[k]? := fun k hk => by rw [← hWF, heap_setCell_other _ _ _ _ hk, heap_setCell_other _ _ _ _ hk]
        have FK : Hid (∀ k, k < (W7).heap.size → k ≠ w.heap.size + 1 → WF.heap[k]? = (W7).heap[k]?) := fun k h1 h2 => (hk k h2).trans (b6.block k h1)
        have FY : Hid (Blk2 WF (w.heap.size + 1) (.slice A1 n1 c1) (.int .i64 q)) := by rw [← hWF]; exact Y6.out.put _ _
        have FR : Hid (RI WF (W7).heap.size [b2i vb]) := R6.out.of_block (hk _ (by omega))
        have FZ : Hid (WF.heap.size = (W7).heap.size + 1) := by
          show WF.heap.size = (W7).heap.size + 1
          rw [← hWF, ← Z6.out]
          simp [World.setCell]
        have FB : Hid (Below w.heap.size w WF) := by rw [← hWF]; exact ((bel_trans HB.out b6).setCell (show w.heap.size ≤ w.heap.size + 1 by omega) _).setCell (show w.heap.size ≤ w.heap.size + 1 by omega) _
        have FS : Hid (Blk2 WF W0.heap.size (.slice A1 n1 c1) (.int .i64 q)) := HS6.out.of_block (hk _ (by omega))
        rw [hWF]
        clear hWF hk b6
        refine hJ.out _ _ FS.out (fun _ => ?_)
        clear hJ J y0 y1 yf
        -- FK, FY, FR, FZ, FB: what the last world WF holds; S5: the new heap's box
        obtain ⟨f0, f1, ff⟩ := FY.out.cells
        refine wpAnyH_ready (rs := [5]) (by kernel_rfl) (by simp) (AllReadyH.cons rfl (fun J hJ => ?_) AllReadyH.nil)
        go_simp
        refine hJ.out _ _ FS.out (fun _ => ?_)
        clear hJ J
        refine wpAnyH_done (by kernel_rfl) ?_ _
        go_wp2
        refine bodyPost_ret (v := .tuple #[.agg #[.slice A1 n1 c1, .int .i64 q], .slice (some ⟨((W7)).heap.size, 0, none⟩) 1 1]) (by simp [results, Try.results51, go_sem, f0, f1]) rfl (HConv.out _ _ ?_)
        refine ⟨A1, c1, ((W7)).heap.size, 1, by rw [Hn1.out]; rfl, .inl ?_, FR.out, by have := HB.out.size; omega, by have := FZ.out; omega, FB.out⟩
        refine DV.wide (lo := w.heap.size + 1 + 1) (hi := ((W7)).heap.size) ?_ (by omega) (by have := FZ.out; omega)
        exact HV.out.of_block fun k h1 h2 => FK.out k h2 (by omega)
      · go_simp
        obtain ⟨W6, hW6⟩ : ∃ W6, (((W7).setCell ⟨w.heap.size + 1, 0, none⟩ (.slice A1 n1 c1)).setCell ⟨w.heap.size + 1, 1, none⟩ (.int .i64 q)).drew = W6 := ⟨_, rfl⟩
        have hk : ∀ k, k ≠ w.heap.size + 1 → W6.heap[k]? = (W7).heap[k]? := fun k hk => by
          rw [← hW6]
          show (((W7).setCell ⟨w.heap.size + 1, 0, none⟩ (.slice A1 n1 c1)).setCell ⟨w.heap.size + 1, 1, none⟩ (.int .i64 q)).heap[k]? = _
          rw [heap_setCell_other _ _ _ _ hk, heap_setCell_other _ _ _ _ hk]
        have Y6 : Hid (Blk2 W6 (w.heap.size + 1) (.slice A1 n1 c1) (.int .i64 q)) := by rw [← hW6]; exact HY.out.put _ _
        have Z6 : Hid (W6.heap.size = (W7).heap.size) := by
          show W6.heap.size = (W7).heap.size
          rw [← hW6]
          show (((W7).setCell ⟨w.heap.size + 1, 0, none⟩ (.slice A1 n1 c1)).setCell ⟨w.heap.size + 1, 1, none⟩ (.int .i64 q)).heap.size = _
          simp [World.setCell]
        have B6 : Hid (Below w.heap.size w W6) := by rw [← hW6]; exact ((HB.out.setCell (show w.heap.size ≤ w.heap.size + 1 by omega) _).setCell (show w.heap.size ≤ w.heap.size + 1 by omega) _).drew
        have HS6 : Hid (Blk2 W6 W0.heap.size (.slice A1 n1 c1) (.int .i64 q)) := HP.out.of_block (hk _ (by omega))
        rw [hW6]
        clear hW6 y0 y1 yf
        refine hJ.out _ _ HS6.out (fun _ => ?_)
        clear hJ J
        refine wpAnyH_ready (rs := [3]) (by kernel_rfl) (by simp) (AllReadyH.cons rfl (fun J hJ => ?_) AllReadyH.nil)
        go_simp
        obtain ⟨WF, hWF⟩ : ∃ WF, W6.alloc (.cells #[.int .i64 (b2i vb)] 3) = WF := ⟨_, rfl⟩
        have b6 : Below W6.heap.size W6 WF := by rw [← hWF]; exact bel_alloc _ _
        have FK : Hid (∀ k, k < (W7).heap.size → k ≠ w.heap.size + 1 → WF.heap[k]? = (W7).heap[k]?) := fun k h1 h2 => (b6.block k (by have := Z6.out; omega)).trans (hk k h2)
        have FY : Hid (Blk2 WF (w.heap.size + 1) (.slice A1 n1 c1) (.int .i64 q)) := Y6.out.below b6
        have FR : Hid (RI WF (W7).heap.size [b2i vb]) := by rw [← Z6.out, ← hWF]; exact ri_one W6 (b2i vb) 3
        have FZ : Hid (WF.heap.size = (W7).heap.size + 1) := by
          show WF.heap.size = (W7).heap.size + 1
          rw [← Z6.out, ← hWF]
          exact World.size_alloc _ _
        have FB : Hid (Below w.heap.size w WF) := bel_trans B6.out b6
        have FS : Hid (Blk2 WF W0.heap.size (.slice A1 n1 c1) (.int .i64 q)) := HS6.out.below b6
        rw [hWF, Z6.out]
        clear hWF hk b6
        refine hJ.out _ _ FS.out (fun _ => ?_)
        clear hJ J
        -- FK, FY, FR, FZ, FB: what the last world WF holds; S5: the new heap's box
        obtain ⟨f0, f1, ff⟩ := FY.out.cells
        refine wpAnyH_ready (rs := [5]) (by kernel_rfl) (by simp) (AllReadyH.cons rfl (fun J hJ => ?_) AllReadyH.nil)
        go_simp
        refine hJ.out _ _ FS.out (fun _ => ?_)
        clear hJ J
        refine wpAnyH_done (by kernel_rfl) ?_ _
        go_wp2
        refine bodyPost_ret (v := .tuple #[.agg #[.slice A1 n1 c1, .int .i64 q], .slice (some ⟨((W7)).heap.size, 0, none⟩) 1 1]) (by simp [results, Try.results51, go_sem, f0, f1]) rfl (HConv.out _ _ ?_)
        refine ⟨A1, c1, ((W7)).heap.size, 1, by rw [Hn1.out]; rfl, .inl ?_, FR.out, by have := HB.out.size; omega, by have := FZ.out; omega, FB.out⟩
        refine DV.wide (lo := w.heap.size + 1 + 1) (hi := ((W7)).heap.size) ?_ (by omega) (by have := FZ.out; omega)
        exact HV.out.of_block fun k h1 h2 => FK.out k h2 (by omega)
        skip
  by_cases ha2 : a = 2
  · subst ha2
    have e1 : stpD ds q [2, b, c] = popD ds q b := by simp [stpD]
    have e2 : stpQ ds q [2, b, c] = q := by simp [stpQ]
    have e3 : stpL ds q [2, b, c] = popL ds q b ++ [-1] := by simp [stpL]
    rw [e1, e2, e3]
    clear e1 e2 e3
    obtain ⟨i0, hi0, hz0, hz1, hz2⟩ := info_parts infoInt
    have Hi0 := Lib.hid hi0
    have Hz0 := Lib.hid hz0
    have Hz1 := Lib.hid hz1
    have Hz2 := Lib.hid hz2
    clear hi0 hz0 hz1 hz2
    go_enter Try.func51, Try.ntmps51
    go_wp2_with fail
    obtain ⟨W0, hW0⟩ : ∃ W0, (w.alloc (.cells #[.slice A n cap, .int .i64 q] 28)).alloc (.cells #[.slice none 0 0, .int .i64 0] 28) = W0 := ⟨_, rfl⟩
    have B0 : Hid (Below w.heap.size w W0) := by rw [← hW0]; exact ((Below.refl _ _).alloc (Nat.le_refl _) _).alloc (by simp) _
    have X0 : Hid (Blk2 W0 w.heap.size (.slice A n cap) (.int .i64 q)) := by rw [← hW0]; exact Blk2.alloc (heap_alloc_new w _) _
    have Y0 : Hid (Blk2 W0 (w.heap.size + 1) (.slice none 0 0) (.int .i64 0)) := by
      have h := heap_alloc_new (w.alloc (.cells #[.slice A n cap, .int .i64 q] 28)) (.cells #[.slice none 0 0, .int .i64 0] 28)
      rw [World.size_alloc, hW0] at h
      exact h
    have z0 : w.heap.size + 1 < W0.heap.size := Y0.out.lt
    rw [hW0]
    clear hW0
    have HS0 : Hid (Ops w.heap.size gb (.slice A n cap) (.int .i64 q) b c W0.drew) := ⟨X0.out, bkeep k1 B0.out.drew, bkeep k2 B0.out.drew⟩
    refine wp_region_held_drew (S := Ops w.heap.size gb (.slice A n cap) (.int .i64 q) b c) (by kernel_rfl) HS0.out (fun _ => ?_)
    refine wpAnyH_take (i := 0) (v := (.agg #[.slice A n cap, .int .i64 q])) rfl (by kernel_rfl) (by kernel_rfl) (by kernel_rfl) (fun _ _ _ h => h) (.inl ⟨rfl, fun V hS => ?y0⟩) (HS0).out ?_
    case y0 =>
      obtain ⟨s0, s1, s2⟩ := hS.1.cells
      obtain ⟨_, s3, s4⟩ := hS
      go_simp
    go_simp
    refine wpAnyH_take (i := 1) (v := (.slice (some ⟨gb, 0, none⟩) 3 3)) rfl (by kernel_rfl) (by kernel_rfl) (by kernel_rfl) (fun _ _ _ h => h) (.inl ⟨rfl, fun V hS => ?y0⟩) (HS0).out ?_
    case y0 =>
      obtain ⟨s0, s1, s2⟩ := hS.1.cells
      obtain ⟨_, s3, s4⟩ := hS
      go_simp
    go_simp
    refine wpAnyH_take (i := 2) (v := (.pointer (some ⟨gb, 1, none⟩))) rfl (by kernel_rfl) (by kernel_rfl) (by kernel_rfl) (fun _ _ _ h => h) (.inl ⟨rfl, fun V hS => ?y0⟩) (HS0).out ?_
    case y0 =>
      obtain ⟨s0, s1, s2⟩ := hS.1.cells
      obtain ⟨_, s3, s4⟩ := hS
      go_simp
    go_simp
    refine wpAnyH_take (i := 3) (v := (.int .i64 b)) rfl (by kernel_rfl) (by kernel_rfl) (by kernel_rfl) (fun _ _ _ h => h) (.inl ⟨rfl, fun V hS => ?y0⟩) (HS0).out ?_
    case y0 =>
      obtain ⟨s0, s1, s2⟩ := hS.1.cells
      obtain ⟨_, s3, s4⟩ := hS
      go_simp
    go_simp
    refine wpAnyH_ready (rs := [4, 8]) (by kernel_rfl) (by simp) (AllReadyH.cons rfl (fun J hJ => ?_) (AllReadyH.cons rfl (fun J hJ => ?_) AllReadyH.nil))
    · go_simp
      refine (implPop_own A n cap lo hi ds q b W0.drew Hn.out (by omega) (HI.out.below B0.out.drew hs) (by have := B0.out.size; show hi ≤ W0.heap.size; omega)).mono ?_
      rintro e w1 ⟨A1, c1, I1, j1, mid, rfl, hm1, hm2, v1, i1, b1, o1⟩
      have b01 := bel_of_drew b1
      have HS1 := Lib.hid (HS0.out.below b1)
      have V1 := Lib.hid v1
      have B1 := Lib.hid (bel_trans B0.out b01)
      have Y1 := Lib.hid (Y0.out.below b01)
      have z1 : W0.heap.size ≤ w1.heap.size := b01.size
      have hm1' : W0.heap.size ≤ mid := hm1
      clear b1 b01 v1
      obtain ⟨n1, hn1⟩ : ∃ n1, (popD ds q b).length = n1 := ⟨_, rfl⟩
      have Hn1 := Lib.hid hn1
      obtain ⟨ids, hids⟩ : ∃ ids, popL ds q b = ids := ⟨_, rfl⟩
      rw [hids] at i1 o1
      obtain ⟨k1', hk1'⟩ : ∃ k1', ids.length = k1' := ⟨_, rfl⟩
      have HConv : Hid (∀ e w', StepEnd w A ds (popD ds q b) q (ids ++ [-1]) e w' → StepEnd w A ds (popD ds q b) q (popL ds q b ++ [-1]) e w') := fun e w' h => by rw [hids]; exact h
      have hkb : k1' ≤ 100 := by rw [← hk1', ← hids]; exact popL_few _ _ _
      have Hk1 := Lib.hid hk1'
      rw [hn1, hids, hk1']
      rw [hk1'] at o1
      have O1 := Lib.hid o1
      clear hn1 hids hk1' o1 i1
      refine hJ.out _ _ HS1.out (fun _ => ?_)
      clear hJ J
      go_simp
      refine wpAnyH_take (i := 5) (v := (.tuple #[.agg #[.slice A1 n1 c1, .int .i64 q], .slice I1 k1' j1])) rfl (by kernel_rfl) (by kernel_rfl) (by kernel_rfl) (fun _ _ _ h => h) (.inl ⟨rfl, fun V hS => ?y0⟩) (HS1).out ?_
      case y0 =>
        obtain ⟨s0, s1, s2⟩ := hS.1.cells
        obtain ⟨_, s3, s4⟩ := hS
        go_simp
      go_simp
      refine wpAnyH_take (i := 6) (v := (.agg #[.slice A1 n1 c1, .int .i64 q])) rfl (by kernel_rfl) (by kernel_rfl) (by kernel_rfl) (fun _ _ _ h => h) (.inl ⟨rfl, fun V hS => ?y0⟩) (HS1).out ?_
      case y0 =>
        obtain ⟨s0, s1, s2⟩ := hS.1.cells
        obtain ⟨_, s3, s4⟩ := hS
        go_simp
      go_simp
      refine wpAnyH_take (i := 7) (v := (.slice I1 k1' j1)) rfl (by kernel_rfl) (by kernel_rfl) (by kernel_rfl) (fun _ _ _ h => h) (.inl ⟨rfl, fun V hS => ?y0⟩) (HS1).out ?_
      case y0 =>
        obtain ⟨s0, s1, s2⟩ := hS.1.cells
        obtain ⟨_, s3, s4⟩ := hS
        go_simp
      go_simp
      refine wpAnyH_ready (rs := [8]) (by kernel_rfl) (by simp) (AllReadyH.cons rfl (fun J hJ => ?_) AllReadyH.nil)
      go_simp
      obtain ⟨Wp, hWp⟩ : ∃ Wp, w1.alloc (.cells #[.slice none 0 0, .int .i64 0] 28) = Wp := ⟨_, rfl⟩
      have bp : Below w1.heap.size w1 Wp := by rw [← hWp]; exact bel_alloc _ _
      have ZP : Hid (Blk2 Wp w1.heap.size (.slice none 0 0) (.int .i64 0)) := by rw [← hWp]; exact heap_alloc_new w1 _
      have zp : w1.heap.size < Wp.heap.size := ZP.out.lt
      rw [hWp]
      clear hWp
      have HSw := Lib.hid (HS1.out.below bp)
      have Yw := Lib.hid (Y1.out.below bp)
      have Bw := Lib.hid (bel_trans B1.out bp)
      have Vw := Lib.hid (V1.out.below bp hm2)
      have Ow := Lib.hid (owns_below O1.out bp (Nat.le_refl _))
      clear bp
      refine hJ.out _ _ HSw.out (fun _ => ?_)
      clear hJ J
      -- ZP: the box at P in W is new; HSw: what is read; Yw, Bw, Vw
      obtain ⟨zz0, zz1, zzf⟩ := ZP.out.cells
      have hpl := ZP.out.lt
      refine wpAnyH_ready (rs := [9]) (by kernel_rfl) (by simp) (AllReadyH.cons rfl (fun J hJ => ?_) AllReadyH.nil)
      go_simp
      obtain ⟨W7, hW7⟩ : ∃ W7, ((Wp).setCell ⟨w1.heap.size, 0, none⟩ (.slice A1 n1 c1)).setCell ⟨w1.heap.size, 1, none⟩ (.int .i64 q) = W7 := ⟨_, rfl⟩
      have hk7 : ∀ k, k ≠ w1.heap.size → W7.heap[k]? = (Wp).heap[k]? := fun k hk => by rw [← hW7, heap_setCell_other _ _ _ _ hk, heap_setCell_other _ _ _ _ hk]
      have hs7 : W7.heap.size = (Wp).heap.size := by rw [← hW7]; simp [World.setCell]
      have HP : Hid (Blk2 W7 w1.heap.size (.slice A1 n1 c1) (.int .i64 q)) := by rw [← hW7]; exact ZP.out.put _ _
      have HB : Hid (Below w.heap.size w W7) := by rw [← hW7]; exact (Bw.out.setCell (show w.heap.size ≤ w1.heap.size by omega) _).setCell (show w.heap.size ≤ w1.heap.size by omega) _
      rw [hW7]
      clear hW7 zz0 zz1 zzf
      have HS7 : Hid (Ops w.heap.size gb (.slice A n cap) (.int .i64 q) b c W7) := ⟨HSw.out.1.of_block (hk7 _ (by omega)), (World.cell?_of_block (w := Wp) (a := ⟨gb, 1, none⟩) (hk7 gb (by omega))).trans HSw.out.2.1, (World.cell?_of_block (w := Wp) (a := ⟨gb, 2, none⟩) (hk7 gb (by omega))).trans HSw.out.2.2⟩
      have HY : Hid (Blk2 W7 (w.heap.size + 1) (.slice none 0 0) (.int .i64 0)) := Yw.out.of_block (hk7 _ (by omega))
      have HV : Hid (DV W7 (w.heap.size + 1 + 1) W7.heap.size A1 _) := DV.wide (lo := W0.heap.size) (hi := mid) (Vw.out.of_block fun k h1 h2 => hk7 k (by omega)) (by omega) (by omega)
      have HVN : Hid (DV W7 W0.heap.size mid A1 _) := Vw.out.of_block fun k h1 h2 => hk7 k (by omega)
      have HK7 := Lib.hid hk7
      have hs7' : (Wp).heap.size ≤ W7.heap.size := by omega
      clear hk7 hs7
      refine hJ.out _ _ HS7.out (fun _ => ?_)
      clear hJ J
      refine wpAnyH_ready (rs := [10]) (by kernel_rfl) (by simp) (AllReadyH.cons rfl (fun J hJ => ?_) AllReadyH.nil)
      go_simp
      refine hJ.out _ _ HS7.out (fun _ => ?_)
      clear hJ J
      refine wpAnyH_done (by kernel_rfl) ?_ _
      -- Ow: the Ids' row in Z; W7: the new heap's box is at P
      have O7 : Hid (W7.ownsRow mid 3 1 (.slice I1 k1' j1) k1' (ids.map (Value.int .i64))) := owns_other Ow.out HK7.out (own_ne Ow.out ZP.out (by decide))
      have hmz : mid ≤ W7.heap.size := by omega
      go_wp2_with fail
      have HS5 : Hid (Blk2 W7.drew w1.heap.size (.slice A1 n1 c1) (.int .i64 q)) := HP.out
      refine wp_region_held_drew (S := fun V => Blk2 V w1.heap.size (.slice A1 n1 c1) (.int .i64 q)) (by kernel_rfl) HS5.out (fun _ => ?_)
      refine wpAnyH_take (i := 0) (v := (.agg #[.slice A1 n1 c1, .int .i64 q])) rfl (by kernel_rfl) (by kernel_rfl) (by kernel_rfl) (fun _ _ _ h => h) (.inl ⟨rfl, fun V hS => ?y0⟩) (HS5).out ?_
      case y0 =>
        obtain ⟨s0, s1, s2⟩ := Blk2.cells hS
        go_simp
      go_simp
      refine wpAnyH_take (i := 1) (v := (.slice I1 k1' j1)) rfl (by kernel_rfl) (by kernel_rfl) (by kernel_rfl) (fun _ _ _ h => h) (.inl ⟨rfl, fun V hS => ?y0⟩) (HS5).out ?_
      case y0 =>
        obtain ⟨s0, s1, s2⟩ := Blk2.cells hS
        go_simp
      go_simp
      refine wpAnyH_ready (rs := [2]) (by kernel_rfl) (by simp) (AllReadyH.cons rfl (fun J hJ => ?_) AllReadyH.nil)
      go_simp
      obtain ⟨W8, hW8⟩ : ∃ W8, (W7.alloc (.cells #[.int .i64 (-1)] 3)).drew = W8 := ⟨_, rfl⟩
      have b8 : Below W7.heap.size W7 W8 := by rw [← hW8]; exact (bel_alloc _ _).drew
      have hnew : ∀ j u, [Value.int .i64 (-1)][j]? = some u → W8.cell? ((⟨W7.heap.size, 0, none⟩ : Addr).add j) = some u := by rw [← hW8]; exact new_one_at (w := W7) rfl _ _
      have z8 : W7.heap.size < W8.heap.size := by rw [← hW8]; show W7.heap.size < (W7.alloc _).heap.size; simp
      rw [hW8]
      clear hW8
      have HS8 := Lib.hid (HP.out.below b8)
      have Y8 := Lib.hid (HY.out.below b8)
      have O8 := Lib.hid (owns_below O7.out b8 (Nat.le_refl _))
      have B8 := Lib.hid (bel_trans HB.out b8)
      have V8 := Lib.hid (HVN.out.below b8 hmz)
      have Hnew := Lib.hid hnew
      clear b8 hnew
      refine hJ.out _ _ HS8.out (fun _ => ?_)
      clear hJ J
      refine wpAnyH_ready (rs := [3]) (by kernel_rfl) (by simp) (AllReadyH.cons rfl (fun J hJ => ?_) AllReadyH.nil)
      refine step_append_lies _ (by rfl) _ _ _ (by rfl) mid 3 i0 _ 1 8 Try.underlying29 Hi0.out Hz0.out Hz1.out Hz2.out rfl (by omega) (.slice I1 k1' j1) k1' _ (by rfl) O8.out ⟨W7.heap.size, 0, none⟩ 1 1 [.int .i64 (-1)] (by rfl) (by rfl) Hnew.out (by simp [Value.oneCell']) (by omega) (by unfold maxLen; omega) (by omega) (by omega) W8.heap.size rfl ?_
      intro gg cap' w9 hown hgr hat hlt9
      have hkp : ∀ k, k < W8.heap.size → some k ≠ (Value.slice I1 k1' j1).ownBlock → w9.heap[k]? = W8.heap[k]? := fun k h1 h2 => hgr.block k h1 h2
      have hrow : ∀ k, k < mid → some k ≠ (Value.slice I1 k1' j1).ownBlock := fun k h1 e => by have := (O8.out.lt _ e.symm).1; omega
      have S9 : Hid (Blk2 w9 w1.heap.size (.slice A1 n1 c1) (.int .i64 q)) := HS8.out.of_block (hkp _ HS8.out.lt (own_ne O8.out HS8.out (by decide)))
      have Y9 : Hid (Blk2 w9 (w.heap.size + 1) (.slice none 0 0) (.int .i64 0)) := Y8.out.of_block (hkp _ Y8.out.lt (own_ne O8.out Y8.out (by decide)))
      have V9 : Hid (DV w9 W0.heap.size mid A1 _) := V8.out.of_block fun k h1 h2 => hkp k (by omega) (hrow k h2)
      have B9 : Hid (Below w.heap.size w w9) := B8.out.grown hgr (by have := B8.out.size; omega) (fun j e => by have := (O8.out.lt j e).1; omega)
      have R9 : Hid (RI w9 gg (ids ++ [-1]) ∧ mid ≤ gg) := by
        have h1 : w9.ownsRow mid 3 1 (.slice (some ⟨gg, 0, none⟩) (k1' + 1) cap') (k1' + 1) ((ids ++ [-1]).map (Value.int .i64)) := by rw [List.map_append]; exact hown
        obtain ⟨g', e', h2, _, h4⟩ := iv_owns h1 (by simp)
        injection e' with e'
        injection e' with e' _ _
        subst e'
        exact ⟨h4, h2⟩
      have z9 : W8.heap.size ≤ w9.heap.size := hgr.size
      clear hown hgr hat hkp hrow
      refine hJ.out _ _ S9.out (fun _ => ?_)
      clear hJ J
      obtain ⟨y0, y1, yf⟩ := Y9.out.cells
      have hyl := Y9.out.lt
      refine wpAnyH_ready (rs := [4]) (by kernel_rfl) (by simp) (AllReadyH.cons rfl (fun J hJ => ?_) AllReadyH.nil)
      go_simp
      obtain ⟨WF, hWF⟩ : ∃ WF, (w9.setCell ⟨w.heap.size + 1, 0, none⟩ (.slice A1 n1 c1)).setCell ⟨w.heap.size + 1, 1, none⟩ (.int .i64 q) = WF := ⟨_, rfl⟩
      have hk : ∀ k, k ≠ w.heap.size + 1 → WF.heap[k]? = w9.heap[k]? := fun k hk => by rw [← hWF, heap_setCell_other _ _ _ _ hk, heap_setCell_other _ _ _ _ hk]
      have FY : Hid (Blk2 WF (w.heap.size + 1) (.slice A1 n1 c1) (.int .i64 q)) := by rw [← hWF]; exact Y9.out.put _ _
      have FS : Hid (Blk2 WF w1.heap.size (.slice A1 n1 c1) (.int .i64 q)) := S9.out.of_block (hk _ (by omega))
      have FB : Hid (Below w.heap.size w WF) := by rw [← hWF]; exact (B9.out.setCell (show w.heap.size ≤ w.heap.size + 1 by omega) _).setCell (show w.heap.size ≤ w.heap.size + 1 by omega) _
      have FZ : Hid (WF.heap.size = w9.heap.size) := by
        show WF.heap.size = w9.heap.size
        rw [← hWF]
        simp [World.setCell]
      have FR : Hid (RI WF gg (ids ++ [-1])) := R9.out.1.of_block (hk _ (by have := R9.out.2; omega))
      have FV : Hid (DV WF W0.heap.size mid A1 _) := V9.out.of_block fun k h1 h2 => hk k (by omega)
      rw [hWF]
      clear hWF hk y0 y1 yf
      refine hJ.out _ _ FS.out (fun _ => ?_)
      clear hJ J
      obtain ⟨f0, f1, ff⟩ := FY.out.cells
      refine wpAnyH_ready (rs := [5]) (by kernel_rfl) (by simp) (AllReadyH.cons rfl (fun J hJ => ?_) AllReadyH.nil)
      go_simp
      refine hJ.out _ _ FS.out (fun _ => ?_)
      clear hJ J
      refine wpAnyH_done (by kernel_rfl) ?_ _
      go_wp2
      refine bodyPost_ret (v := .tuple #[.agg #[.slice A1 n1 c1, .int .i64 q], .slice (some ⟨gg, 0, none⟩) (k1' + 1) cap']) (by simp [results, Try.results51, go_sem, f0, f1]) rfl (HConv.out _ _ ?_)
      refine ⟨A1, c1, gg, cap', by rw [Hn1.out, List.length_append, Hk1.out]; rfl, .inl ?_, FR.out, by have := R9.out.2; omega, by have := FZ.out; omega, FB.out⟩
      exact FV.out.wide (by omega) (by have := FZ.out; omega)
    · go_simp
      obtain ⟨Wp, hWp⟩ : ∃ Wp, (W0.alloc (.cells #[.slice none 0 0, .int .i64 0] 28)).drew = Wp := ⟨_, rfl⟩
      have bp : Below W0.heap.size W0 Wp := by rw [← hWp]; exact (bel_alloc _ _).drew
      have ZP0 : Hid (Blk2 Wp W0.heap.size (.slice none 0 0) (.int .i64 0)) := by rw [← hWp]; exact heap_alloc_new W0 _
      have zp : W0.heap.size < Wp.heap.size := ZP0.out.lt
      rw [hWp]
      clear hWp
      have HSp : Hid (Ops w.heap.size gb (.slice A n cap) (.int .i64 q) b c Wp) := Ops.below (V := W0) HS0.out bp
      have BP := Lib.hid (bel_trans B0.out bp)
      have YP := Lib.hid (Y0.out.below bp)
      clear bp
      refine hJ.out _ _ HSp.out (fun _ => ?_)
      clear hJ J
      refine wpAnyH_ready (rs := [4]) (by kernel_rfl) (by simp) (AllReadyH.cons rfl (fun J hJ => ?_) AllReadyH.nil)
      go_simp
      refine (implPop_own A n cap lo hi ds q b Wp Hn.out (by omega) (HI.out.below BP.out hs) (by have := BP.out.size; omega)).mono ?_
      rintro e w1 ⟨A1, c1, I1, j1, mid, rfl, hm1, hm2, v1, i1, b1, o1⟩
      have HS1 := Lib.hid (HSp.out.below b1)
      have HSw := HS1
      have Vw := Lib.hid v1
      have Bw := Lib.hid (bel_trans BP.out b1)
      have Yw := Lib.hid (YP.out.below b1)
      have ZP := Lib.hid (ZP0.out.below b1)
      have z1 : Wp.heap.size ≤ w1.heap.size := b1.size
      clear b1 v1
      obtain ⟨n1, hn1⟩ : ∃ n1, (popD ds q b).length = n1 := ⟨_, rfl⟩
      have Hn1 := Lib.hid hn1
      obtain ⟨ids, hids⟩ : ∃ ids, popL ds q b = ids := ⟨_, rfl⟩
      rw [hids] at i1 o1
      obtain ⟨k1', hk1'⟩ : ∃ k1', ids.length = k1' := ⟨_, rfl⟩
      have HConv : Hid (∀ e w', StepEnd w A ds (popD ds q b) q (ids ++ [-1]) e w' → StepEnd w A ds (popD ds q b) q (popL ds q b ++ [-1]) e w') := fun e w' h => by rw [hids]; exact h
      have hkb : k1' ≤ 100 := by rw [← hk1', ← hids]; exact popL_few _ _ _
      have Hk1 := Lib.hid hk1'
      rw [hn1, hids, hk1']
      rw [hk1'] at o1
      have O1 := Lib.hid o1
      clear hn1 hids hk1' o1 i1
      have Ow := O1
      refine hJ.out _ _ HS1.out (fun _ => ?_)
      clear hJ J
      go_simp
      refine wpAnyH_take (i := 5) (v := (.tuple #[.agg #[.slice A1 n1 c1, .int .i64 q], .slice I1 k1' j1])) rfl (by kernel_rfl) (by kernel_rfl) (by kernel_rfl) (fun _ _ _ h => h) (.inl ⟨rfl, fun V hS => ?y0⟩) (HS1).out ?_
      case y0 =>
        obtain ⟨s0, s1, s2⟩ := hS.1.cells
        obtain ⟨_, s3, s4⟩ := hS
        go_simp
      go_simp
      refine wpAnyH_take (i := 6) (v := (.agg #[.slice A1 n1 c1, .int .i64 q])) rfl (by kernel_rfl) (by kernel_rfl) (by kernel_rfl) (fun _ _ _ h => h) (.inl ⟨rfl, fun V hS => ?y0⟩) (HS1).out ?_
      case y0 =>
        obtain ⟨s0, s1, s2⟩ := hS.1.cells
        obtain ⟨_, s3, s4⟩ := hS
        go_simp
      go_simp
      refine wpAnyH_take (i := 7) (v := (.slice I1 k1' j1)) rfl (by kernel_rfl) (by kernel_rfl) (by kernel_rfl) (fun _ _ _ h => h) (.inl ⟨rfl, fun V hS => ?y0⟩) (HS1).out ?_
      case y0 =>
        obtain ⟨s0, s1, s2⟩ := hS.1.cells
        obtain ⟨_, s3, s4⟩ := hS
        go_simp
      go_simp
      -- ZP: the box at P in W is new; HSw: what is read; Yw, Bw, Vw
      obtain ⟨zz0, zz1, zzf⟩ := ZP.out.cells
      have hpl := ZP.out.lt
      refine wpAnyH_ready (rs := [9]) (by kernel_rfl) (by simp) (AllReadyH.cons rfl (fun J hJ => ?_) AllReadyH.nil)
      go_simp
      obtain ⟨W7, hW7⟩ : ∃ W7, ((w1).setCell ⟨W0.heap.size, 0, none⟩ (.slice A1 n1 c1)).setCell ⟨W0.heap.size, 1, none⟩ (.int .i64 q) = W7 := ⟨_, rfl⟩
      have hk7 : ∀ k, k ≠ W0.heap.size → W7.heap[k]? = (w1).heap[k]? := fun k hk => by rw [← hW7, heap_setCell_other _ _ _ _ hk, heap_setCell_other _ _ _ _ hk]
      have hs7 : W7.heap.size = (w1).heap.size := by rw [← hW7]; simp [World.setCell]
      have HP : Hid (Blk2 W7 W0.heap.size (.slice A1 n1 c1) (.int .i64 q)) := by rw [← hW7]; exact ZP.out.put _ _
      have HB : Hid (Below w.heap.size w W7) := by rw [← hW7]; exact (Bw.out.setCell (show w.heap.size ≤ W0.heap.size by omega) _).setCell (show w.heap.size ≤ W0.heap.size by omega) _
      rw [hW7]
      clear hW7 zz0 zz1 zzf
      have HS7 : Hid (Ops w.heap.size gb (.slice A n cap) (.int .i64 q) b c W7) := ⟨HSw.out.1.of_block (hk7 _ (by omega)), (World.cell?_of_block (w := w1) (a := ⟨gb, 1, none⟩) (hk7 gb (by omega))).trans HSw.out.2.1, (World.cell?_of_block (w := w1) (a := ⟨gb, 2, none⟩) (hk7 gb (by omega))).trans HSw.out.2.2⟩
      have HY : Hid (Blk2 W7 (w.heap.size + 1) (.slice none 0 0) (.int .i64 0)) := Yw.out.of_block (hk7 _ (by omega))
      have HV : Hid (DV W7 (w.heap.size + 1 + 1) W7.heap.size A1 _) := DV.wide (lo := Wp.heap.size) (hi := mid) (Vw.out.of_block fun k h1 h2 => hk7 k (by omega)) (by omega) (by omega)
      have HVN : Hid (DV W7 Wp.heap.size mid A1 _) := Vw.out.of_block fun k h1 h2 => hk7 k (by omega)
      have HK7 := Lib.hid hk7
      have hs7' : (w1).heap.size ≤ W7.heap.size := by omega
      clear hk7 hs7
      refine hJ.out _ _ HS7.out (fun _ => ?_)
      clear hJ J
      refine wpAnyH_ready (rs := [10]) (by kernel_rfl) (by simp) (AllReadyH.cons rfl (fun J hJ => ?_) AllReadyH.nil)
      go_simp
      refine hJ.out _ _ HS7.out (fun _ => ?_)
      clear hJ J
      refine wpAnyH_done (by kernel_rfl) ?_ _
      -- Ow: the Ids' row in Z; W7: the new heap's box is at P
      have O7 : Hid (W7.ownsRow mid 3 1 (.slice I1 k1' j1) k1' (ids.map (Value.int .i64))) := owns_other Ow.out HK7.out (own_ne Ow.out ZP.out (by decide))
      have hmz : mid ≤ W7.heap.size := by omega
      go_wp2_with fail
      have HS5 : Hid (Blk2 W7.drew W0.heap.size (.slice A1 n1 c1) (.int .i64 q)) := HP.out
      refine wp_region_held_drew (S := fun V => Blk2 V W0.heap.size (.slice A1 n1 c1) (.int .i64 q)) (by kernel_rfl) HS5.out (fun _ => ?_)
      refine wpAnyH_take (i := 0) (v := (.agg #[.slice A1 n1 c1, .int .i64 q])) rfl (by kernel_rfl) (by kernel_rfl) (by kernel_rfl) (fun _ _ _ h => h) (.inl ⟨rfl, fun V hS => ?y0⟩) (HS5).out ?_
      case y0 =>
        obtain ⟨s0, s1, s2⟩ := Blk2.cells hS
        go_simp
      go_simp
      refine wpAnyH_take (i := 1) (v := (.slice I1 k1' j1)) rfl (by kernel_rfl) (by kernel_rfl) (by kernel_rfl) (fun _ _ _ h => h) (.inl ⟨rfl, fun V hS => ?y0⟩) (HS5).out ?_
      case y0 =>
        obtain ⟨s0, s1, s2⟩ := Blk2.cells hS
        go_simp
      go_simp
      refine wpAnyH_ready (rs := [2]) (by kernel_rfl) (by simp) (AllReadyH.cons rfl (fun J hJ => ?_) AllReadyH.nil)
      go_simp
      obtain ⟨W8, hW8⟩ : ∃ W8, (W7.alloc (.cells #[.int .i64 (-1)] 3)).drew = W8 := ⟨_, rfl⟩
      have b8 : Below W7.heap.size W7 W8 := by rw [← hW8]; exact (bel_alloc _ _).drew
      have hnew : ∀ j u, [Value.int .i64 (-1)][j]? = some u → W8.cell? ((⟨W7.heap.size, 0, none⟩ : Addr).add j) = some u := by rw [← hW8]; exact new_one_at (w := W7) rfl _ _
      have z8 : W7.heap.size < W8.heap.size := by rw [← hW8]; show W7.heap.size < (W7.alloc _).heap.size; simp
      rw [hW8]
      clear hW8
      have HS8 := Lib.hid (HP.out.below b8)
      have Y8 := Lib.hid (HY.out.below b8)
      have O8 := Lib.hid (owns_below O7.out b8 (Nat.le_refl _))
      have B8 := Lib.hid (bel_trans HB.out b8)
      have V8 := Lib.hid (HVN.out.below b8 hmz)
      have Hnew := Lib.hid hnew
      clear b8 hnew
      refine hJ.out _ _ HS8.out (fun _ => ?_)
      clear hJ J
      refine wpAnyH_ready (rs := [3]) (by kernel_rfl) (by simp) (AllReadyH.cons rfl (fun J hJ => ?_) AllReadyH.nil)
      refine step_append_lies _ (by rfl) _ _ _ (by rfl) mid 3 i0 _ 1 8 Try.underlying29 Hi0.out Hz0.out Hz1.out Hz2.out rfl (by omega) (.slice I1 k1' j1) k1' _ (by rfl) O8.out ⟨W7.heap.size, 0, none⟩ 1 1 [.int .i64 (-1)] (by rfl) (by rfl) Hnew.out (by simp [Value.oneCell']) (by omega) (by unfold maxLen; omega) (by omega) (by omega) W8.heap.size rfl ?_
      intro gg cap' w9 hown hgr hat hlt9
      have hkp : ∀ k, k < W8.heap.size → some k ≠ (Value.slice I1 k1' j1).ownBlock → w9.heap[k]? = W8.heap[k]? := fun k h1 h2 => hgr.block k h1 h2
      have hrow : ∀ k, k < mid → some k ≠ (Value.slice I1 k1' j1).ownBlock := fun k h1 e => by have := (O8.out.lt _ e.symm).1; omega
      have S9 : Hid (Blk2 w9 W0.heap.size (.slice A1 n1 c1) (.int .i64 q)) := HS8.out.of_block (hkp _ HS8.out.lt (own_ne O8.out HS8.out (by decide)))
      have Y9 : Hid (Blk2 w9 (w.heap.size + 1) (.slice none 0 0) (.int .i64 0)) := Y8.out.of_block (hkp _ Y8.out.lt (own_ne O8.out Y8.out (by decide)))
      have V9 : Hid (DV w9 Wp.heap.size mid A1 _) := V8.out.of_block fun k h1 h2 => hkp k (by omega) (hrow k h2)
      have B9 : Hid (Below w.heap.size w w9) := B8.out.grown hgr (by have := B8.out.size; omega) (fun j e => by have := (O8.out.lt j e).1; omega)
      have R9 : Hid (RI w9 gg (ids ++ [-1]) ∧ mid ≤ gg) := by
        have h1 : w9.ownsRow mid 3 1 (.slice (some ⟨gg, 0, none⟩) (k1' + 1) cap') (k1' + 1) ((ids ++ [-1]).map (Value.int .i64)) := by rw [List.map_append]; exact hown
        obtain ⟨g', e', h2, _, h4⟩ := iv_owns h1 (by simp)
        injection e' with e'
        injection e' with e' _ _
        subst e'
        exact ⟨h4, h2⟩
      have z9 : W8.heap.size ≤ w9.heap.size := hgr.size
      clear hown hgr hat hkp hrow
      refine hJ.out _ _ S9.out (fun _ => ?_)
      clear hJ J
      obtain ⟨y0, y1, yf⟩ := Y9.out.cells
      have hyl := Y9.out.lt
      refine wpAnyH_ready (rs := [4]) (by kernel_rfl) (by simp) (AllReadyH.cons rfl (fun J hJ => ?_) AllReadyH.nil)
      go_simp
      obtain ⟨WF, hWF⟩ : ∃ WF, (w9.setCell ⟨w.heap.size + 1, 0, none⟩ (.slice A1 n1 c1)).setCell ⟨w.heap.size + 1, 1, none⟩ (.int .i64 q) = WF := ⟨_, rfl⟩
      have hk : ∀ k, k ≠ w.heap.size + 1 → WF.heap[k]? = w9.heap[k]? := fun k hk => by rw [← hWF, heap_setCell_other _ _ _ _ hk, heap_setCell_other _ _ _ _ hk]
      have FY : Hid (Blk2 WF (w.heap.size + 1) (.slice A1 n1 c1) (.int .i64 q)) := by rw [← hWF]; exact Y9.out.put _ _
      have FS : Hid (Blk2 WF W0.heap.size (.slice A1 n1 c1) (.int .i64 q)) := S9.out.of_block (hk _ (by omega))
      have FB : Hid (Below w.heap.size w WF) := by rw [← hWF]; exact (B9.out.setCell (show w.heap.size ≤ w.heap.size + 1 by omega) _).setCell (show w.heap.size ≤ w.heap.size + 1 by omega) _
      have FZ : Hid (WF.heap.size = w9.heap.size) := by
        show WF.heap.size = w9.heap.size
        rw [← hWF]
        simp [World.setCell]
      have FR : Hid (RI WF gg (ids ++ [-1])) := R9.out.1.of_block (hk _ (by have := R9.out.2; omega))
      have FV : Hid (DV WF Wp.heap.size mid A1 _) := V9.out.of_block fun k h1 h2 => hk k (by omega)
      rw [hWF]
      clear hWF hk y0 y1 yf
      refine hJ.out _ _ FS.out (fun _ => ?_)
      clear hJ J
      obtain ⟨f0, f1, ff⟩ := FY.out.cells
      refine wpAnyH_ready (rs := [5]) (by kernel_rfl) (by simp) (AllReadyH.cons rfl (fun J hJ => ?_) AllReadyH.nil)
      go_simp
      refine hJ.out _ _ FS.out (fun _ => ?_)
      clear hJ J
      refine wpAnyH_done (by kernel_rfl) ?_ _
      go_wp2
      refine bodyPost_ret (v := .tuple #[.agg #[.slice A1 n1 c1, .int .i64 q], .slice (some ⟨gg, 0, none⟩) (k1' + 1) cap']) (by simp [results, Try.results51, go_sem, f0, f1]) rfl (HConv.out _ _ ?_)
      refine ⟨A1, c1, gg, cap', by rw [Hn1.out, List.length_append, Hk1.out]; rfl, .inl ?_, FR.out, by have := R9.out.2; omega, by have := FZ.out; omega, FB.out⟩
      exact FV.out.wide (by omega) (by have := FZ.out; omega)
  have e1 : stpD ds q [a, b, c] = ds := by simp [stpD, ha0, ha1, ha2]
  have e2 : stpQ ds q [a, b, c] = q := by simp [stpQ, ha0]
  have e3 : stpL ds q [a, b, c] = [-2] := by simp [stpL, ha0, ha1, ha2]
  rw [e1, e2, e3]
  clear e1 e2 e3
  have h0 : (a == 0) = false := by simpa using ha0
  have h1 : (a == 1) = false := by simpa using ha1
  have h2 : (a == 2) = false := by simpa using ha2
  go_enter Try.func51, Try.ntmps51
  go_wp2
  refine bodyPost_ret (v := .tuple #[.agg #[.slice A n cap, .int .i64 q], .slice (some ⟨w.heap.size + 1 + 1, 0, none⟩) 1 1]) (by simp [results, Try.results51, go_sem]) rfl ?_
  refine ⟨A, cap, w.heap.size + 1 + 1, 1, by rw [Hn.out]; rfl, .inr ⟨rfl, rfl⟩, ?_, by omega, by simp, ?_⟩
  · have h1 := ri_one ((w.alloc (.cells #[.slice A n cap, .int .i64 q] 28)).alloc (.cells #[.slice A n cap, .int .i64 q] 28)) (-2) 3
    simp only [World.size_alloc] at h1
    exact h1
  · exact (((Below.refl _ _).alloc (Nat.le_refl _) _).alloc (by simp) _).alloc (by simp; omega) _
end Go.Proofs.Ytnmhdbfemobhkaa.Hp
