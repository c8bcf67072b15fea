/- PutLog, of the program and of the reference: the events' bytes in a new row. -/
import Derived.Test.YtcgmeindiaaokaaDoorByR
import Derived.Deep.AppendLies
namespace Go.Proofs.YtcgmeindiaaokaaDoor.By
open Go.RowKit Go.Deep Base Rw

/-- What PutLog owes. -/
def EndL (w : World) (log : List Ev) (e : Ending) (w' : World) : Prop := ∃ A cap, e = .returned (.tuple #[.slice A ((putL log).getD []).length cap, .bool (putL log).isSome]) ∧ BV w' w.heap.size w'.heap.size A ((putL log).getD []) ∧ Below w.heap.size w w'
theorem EndL.no {w w' : World} {log : List Ev} (h : putL log = none) (hb : Below w.heap.size w w') : EndL w log (.returned (.tuple #[.slice none 0 0, .bool false])) w' := ⟨none, 0, by rw [h]; rfl, by rw [h]; exact BV.nil _ _ _ _, hb⟩
theorem EndL.yes {w w' : World} {log : List Ev} {b : List Int} {v : Value} (h : putL log = some b) (hb : BSt w.heap.size w w' v b) : EndL w log (.returned (.tuple #[v, .bool true])) w' := by
  obtain ⟨A, cap, rfl, hv⟩ := hb.form
  exact ⟨A, cap, by rw [h]; rfl, by rw [h]; exact hv, hb.old⟩
theorem owns_cap {w : World} {base : Nat} {e : TypeId} {size n n' cap : Nat} {A : Option Addr} {xs : List Value} (h : w.ownsRow base e size (.slice A n' cap) n xs) : n' ≤ cap ∧ cap ≤ 9223372036854775807 := by
  rcases h.2 with ⟨hv, h0⟩ | ⟨g, cap', cur, hv, hb, hg, h1, h2, _⟩
  · cases hv; exact ⟨Nat.le_refl _, by omega⟩
  · cases hv
    unfold maxLen at h2
    exact ⟨h1, by omega⟩
/-- What PutLog owes, and how much room its row has. -/
def EndC (w : World) (log : List Ev) (e : Ending) (w' : World) : Prop := EndL w log e w' ∧ ∀ A n cap ok, e = .returned (.tuple #[.slice A n cap, ok]) → n ≤ cap ∧ cap ≤ 9223372036854775807
theorem EndC.no {w w' : World} {log : List Ev} (h : putL log = none) (hb : Below w.heap.size w w') : EndC w log (.returned (.tuple #[.slice none 0 0, .bool false])) w' := ⟨EndL.no h hb, fun A n cap ok e => by simp at e; obtain ⟨⟨_, rfl, rfl⟩, _⟩ := e; exact ⟨Nat.le_refl _, by omega⟩⟩
theorem EndC.yes {w w' : World} {log : List Ev} {b : List Int} {v : Value} (h : putL log = some b) (hb : BSt w.heap.size w w' v b) : EndC w log (.returned (.tuple #[v, .bool true])) w' := ⟨EndL.yes h hb, fun A n cap ok e => by
  simp at e
  obtain ⟨rfl, _⟩ := e
  exact owns_cap hb.own⟩
theorem drop_at {log : List Ev} {k : Nat} (h : k < log.length) : log.drop k = atE log k :: log.drop (k + 1) := by
  rw [List.drop_eq_getElem_cons h]
  congr 1
  simp [atE, List.getD_eq_getElem?_getD, h]
theorem putG_out {acc : List Int} {e : Ev} {r : List Ev} (h : putE e = [] ∨ 8000 < acc.length + (putE e).length) : putG acc (e :: r) = none := by rw [putG, if_pos h]
theorem putG_in {acc : List Int} {e : Ev} {r : List Ev} (h1 : putE e ≠ []) (h2 : acc.length + (putE e).length ≤ 8000) : putG acc (e :: r) = putG (acc ++ putE e) r := by
  rw [putG, if_neg (by rintro (h | h); exact h1 h; omega)]
/-- A row that stands beside the one that grows. -/
structure Side (u : Value) (A : Option Addr) (lo hi : Nat) (q : List Int) (wx : World) : Prop where
  far : ∀ g, u.ownBlock = some g → g < lo ∨ hi ≤ g
  row : BV wx lo hi A q
  lim : hi ≤ wx.heap.size
theorem Side.step {u : Value} {A : Option Addr} {lo hi g n cap : Nat} {q : List Int} {wx w4 : World} {o : Obj} (h : Side u A lo hi q wx) (hg : (wx.alloc o).grownBy w4 u.ownBlock) (hat : u.ownBlock = some g ∨ g = wx.heap.size + 1) : Side (.slice (some ⟨g, 0, none⟩) n cap) A lo hi q w4 := by
  have hs : (wx.alloc o).heap.size = wx.heap.size + 1 := by simp
  have hl := h.lim
  refine ⟨fun g' e => ?_, h.row.of_block fun b h1 h2 => ?_, by have := hg.size; omega⟩
  · simp [Value.ownBlock] at e
    subst e
    rcases hat with hat | hat
    · exact h.far _ hat
    · exact .inr (by omega)
  · have h3 : some b ≠ u.ownBlock := fun e => by
      rcases h.far b e.symm with h4 | h4 <;> omega
    rw [hg.block b (by omega) h3]
    exact (bel_alloc wx o).block b (by omega)
theorem tuple_two (a b : Value) : Ending.returned (.tuple #[a, b]) = .returned (.tuple #[a, b]) := rfl

set_option maxRecDepth 100000 in
set_option maxHeartbeats 2000000 in
theorem implPutLogC_any (A : Option Addr) (n cap : Nat) (log : List Ev) (w : World) (hn : log.length = n) (hm : n ≤ 1048576) (h : EI w A log) :
    Calls Tryd.prog 11 #[.slice A n cap] w (EndC w log) := by
  by_cases hbig : 2000 < n
  · have e0 : putL log = none := by unfold putL; rw [if_pos (by omega)]
    have E0 := Lib.hid e0
    clear e0 h hn
    go_enter Tryd.func11, Tryd.ntmps11
    go_wp2_with fail
    refine bodyPost_ret (v := .tuple #[.slice none 0 0, .bool false]) (by simp [results, Tryd.results11]) rfl ?_
    exact EndC.no E0.out (Below.refl _ _)
  · obtain ⟨i0, hi0, hz0, hz1, hz2⟩ := info_parts infoY
    have Hi0 := Lib.hid hi0
    have Hz0 := Lib.hid hz0
    have Hz1 := Lib.hid hz1
    have Hz2 := Lib.hid hz2
    have Hn := Lib.hid hn
    have HI := Lib.hid h
    have HP : Hid (putG [] log = putL log) := by show _ = _; unfold putL; rw [if_neg (by omega)]
    clear hi0 hz0 hz1 hz2 hn h
    go_enter Tryd.func11, Tryd.ntmps11
    go_wp2_with fail
    go_loopw [4, 13] (fun v i wr => ∃ (u : Value) (k : Nat) (acc : List Int), u = v ∧ k ≤ n ∧ i = .int .i64 k ∧ Hid (putG acc (log.drop k) = putL log) ∧ acc.length ≤ 8000 ∧ BSt w.heap.size w wr u acc) (fun _ i _ => n - (intOf i).toNat)
    case atStart => exact ⟨_, 0, [], rfl, Nat.zero_le _, rfl, by show _ = _; simpa using HP.out, by simp, BSt.nil _ _⟩
    case round =>
      clear HP
      obtain ⟨u, k, acc, rfl, hk, rfl, Hg, hacc, hst⟩ := hrel
      have Hst := Lib.hid hst
      have z1 : w.heap.size ≤ wr.heap.size := hst.old.size
      clear hst
      by_cases hlt : k < n
      · obtain ⟨b, off, rfl, hc⟩ := (HI.out.below Hst.out.old) (by have := Hn.out; omega)
        obtain ⟨c0, c1, c2⟩ := hc k (by have := Hn.out; omega)
        clear hc
        have Hd : Hid (log.drop k = atE log k :: log.drop (k + 1)) := drop_at (by have := Hn.out; omega)
        generalize atE log k = s at c0 c1 c2 Hd
        obtain ⟨Av, cv, hform, _⟩ := Hst.out.form
        subst hform
        go_wp2_with fail
        refine (implPutE_any s _).mono ?_
        rintro e w1 ⟨A1, cp1, rfl, v1, b1, hnil⟩
        have St1 := Lib.hid (Hst.out.keep z1 (bel_trans (bel_alloc wr _) b1))
        have z2 : w.heap.size ≤ w1.heap.size := St1.out.old.size
        have V1 := Lib.hid v1
        clear b1 v1 Hst
        have hl := putE_len s
        have Hq : Hid (putE s = putE s) := rfl
        generalize hq0 : putE s = q at V1 hnil hl
        replace Hq := Lib.hid hq0
        clear hq0
        by_cases h0 : q = []
        · have hA := hnil h0
          subst hA
          have He : Hid (putL log = none) := by
            show _ = _
            rw [← Hg.out, Hd.out]
            exact putG_out (.inl (Hq.out.trans h0))
          have hq0 : q.length = 0 := by rw [h0]; rfl
          have hns := fun W => Lib.run_eql_slice_nil (P := Tryd.prog) W 22 5 none 0 cp1 0 0 Tryd.underlying22
          clear h0 hnil
          go_wp2_with fail
          refine bodyPost_ret (v := .tuple #[.slice none 0 0, .bool false]) (by simp [results, Tryd.results11]) rfl ?_
          exact EndC.no He.out St1.out.old
        · obtain ⟨g1, rfl, _, _, hr⟩ := V1.out (List.length_pos_iff.2 h0)
          have Hr := Lib.hid hr
          have Hne : Hid (q ≠ []) := h0
          have hns := fun W => Lib.run_eql_slice_nil (P := Tryd.prog) W 22 5 (some ⟨g1, 0, none⟩) q.length cp1 0 0 Tryd.underlying22
          clear hr h0 hnil V1
          by_cases h8 : 8000 < acc.length + q.length
          · have He : Hid (putL log = none) := by
              show _ = _
              rw [← Hg.out, Hd.out]
              exact putG_out (.inr (by rw [Hq.out]; exact h8))
            go_wp2_with fail
            refine bodyPost_ret (v := .tuple #[.slice none 0 0, .bool false]) (by simp [results, Tryd.results11]) rfl ?_
            exact EndC.no He.out St1.out.old
          · have Hg' : Hid (putG (acc ++ q) (log.drop (k + 1)) = putL log) := by
              show _ = _
              rw [← Hg.out, Hd.out, putG_in (by rw [Hq.out]; exact Hne.out) (by rw [Hq.out]; omega), Hq.out]
            clear Hg Hd
            go_wp2_with (at_builtin; refine wpList_append_own _ rfl _ _ 22 rfl w.heap.size 5 i0 (.int .u8 0) 1 1 Tryd.underlying22 Hi0.out Hz0.out Hz1.out Hz2.out rfl (by decide) _ _ _ rfl St1.out.own ⟨g1, 0, none⟩ q.length cp1 (q.map (Value.int .u8)) rfl (by simp) ?c1h (map_oneY _) ?c3h ?c4h z2 ?_)
            case c1h =>
              intro j u hu
              obtain ⟨hj, rfl⟩ := map_u8_at hu
              rw [Addr.add_mid, Nat.zero_add]
              exact (Hr.out j hj).1
            case c3h => unfold maxLen; omega
            case c4h => omega
            · intro v' w4 hown hgr _
              have HQ := Lib.hid (St1.out.many (Nat.le_refl _) hown hgr)
              clear hown hgr
              go_wp2
              go_roundw
              case rel => exact ⟨_, k + 1, _, rfl, by omega, by go_num, Hg', by simp; omega, HQ.out⟩
              case measure => simp [intOf]; omega
      · obtain rfl : k = n := by omega
        have He : Hid (putL log = some acc) := by
          show _ = _
          have := Hg.out
          rw [List.drop_eq_nil_of_le (by have := Hn.out; omega)] at this
          rw [← this]
          rfl
        go_wp2_with fail
        refine bodyPost_ret (v := .tuple #[u, .bool true]) (by simp [results, Tryd.results11]) rfl ?_
        exact EndC.yes He.out Hst.out

theorem implPutLog_any (A : Option Addr) (n cap : Nat) (log : List Ev) (w : World) (hn : log.length = n) (hm : n ≤ 1048576) (h : EI w A log) :
    Calls Tryd.prog 11 #[.slice A n cap] w (EndL w log) := (implPutLogC_any A n cap log w hn hm h).mono fun _ _ h => h.1

set_option maxRecDepth 100000 in
set_option maxHeartbeats 2000000 in
theorem specPutLog_any (A : Option Addr) (n cap : Nat) (log : List Ev) (w : World) (hn : log.length = n) (hm : n ≤ 1048576) (h : EI w A log) :
    Calls Tryd.prog 10 #[.slice A n cap] w (EndL w log) := by
  by_cases hbig : 2000 < n
  · have e0 : putL log = none := by unfold putL; rw [if_pos (by omega)]
    have E0 := Lib.hid e0
    clear e0 h hn
    go_enter Tryd.func10, Tryd.ntmps10
    go_wp2_with fail
    refine bodyPost_ret (v := .tuple #[.slice none 0 0, .bool false]) (by simp [results, Tryd.results10]) rfl ?_
    exact EndL.no E0.out (bel_alloc _ _)
  · obtain ⟨i0, hi0, hz0, hz1, hz2⟩ := info_parts infoY
    have Hi0 := Lib.hid hi0
    have Hz0 := Lib.hid hz0
    have Hz1 := Lib.hid hz1
    have Hz2 := Lib.hid hz2
    have Hn := Lib.hid hn
    have HI := Lib.hid h
    have HP : Hid (putG [] log = putL log) := by show _ = _; unfold putL; rw [if_neg (by omega)]
    clear hi0 hz0 hz1 hz2 hn h
    go_enter Tryd.func10, Tryd.ntmps10
    go_wp2_with fail
    go_loopw [4, 5] (fun v i wr => ∃ (u : Value) (k : Nat) (acc : List Int), u = v ∧ k ≤ n ∧ i = .int .i64 k ∧ Hid (putG acc (log.drop k) = putL log) ∧ acc.length ≤ 8000 ∧ BSt w.heap.size w wr u acc) (fun _ i _ => n - (intOf i).toNat)
    case atStart => exact ⟨_, 0, [], rfl, Nat.zero_le _, rfl, by show _ = _; simpa using HP.out, by simp, BSt.empty w (Nat.le_refl _)⟩
    case round =>
      clear HP
      obtain ⟨u, k, acc, rfl, hk, rfl, Hg, hacc, hst⟩ := hrel
      have Hst := Lib.hid hst
      have z1 : w.heap.size ≤ wr.heap.size := hst.old.size
      clear hst
      by_cases hlt : k < n
      · obtain ⟨b, off, rfl, hc⟩ := (HI.out.below Hst.out.old) (by have := Hn.out; omega)
        obtain ⟨c0, c1, c2⟩ := hc k (by have := Hn.out; omega)
        clear hc
        have Hd : Hid (log.drop k = atE log k :: log.drop (k + 1)) := drop_at (by have := Hn.out; omega)
        generalize atE log k = s at c0 c1 c2 Hd
        obtain ⟨Av, cv, hform, _⟩ := Hst.out.form
        subst hform
        go_wp2_with fail
        refine (specPutE_any s _).mono ?_
        rintro e w1 ⟨A1, cp1, rfl, v1, b1, hnil⟩
        have St1 := Lib.hid (Hst.out.keep z1 b1)
        have z2 : w.heap.size ≤ w1.heap.size := St1.out.old.size
        have V1 : Hid (Side (.slice Av acc.length cv) A1 wr.heap.size w1.heap.size (putE s) w1) := ⟨fun g hg => .inl (Hst.out.own.lt g hg).2, v1, Nat.le_refl _⟩
        obtain ⟨lo, hlo⟩ : ∃ lo, wr.heap.size = lo := ⟨_, rfl⟩
        obtain ⟨hi, hhi⟩ : ∃ hi, w1.heap.size = hi := ⟨_, rfl⟩
        rw [hlo, hhi] at V1
        clear b1 v1 Hst hnil hlo hhi
        have hl := putE_len s
        have Hq : Hid (putE s = putE s) := rfl
        generalize hq0 : putE s = q at V1 hl
        replace Hq := Lib.hid hq0
        clear hq0 c0 c1 c2
        by_cases h0 : q.length = 0
        · have He : Hid (putL log = none) := by
            show _ = _
            rw [← Hg.out, Hd.out]
            exact putG_out (.inl (Hq.out.trans (List.length_eq_zero_iff.1 h0)))
          go_wp2_with fail
          refine bodyPost_ret (v := .tuple #[.slice none 0 0, .bool false]) (by simp [results, Tryd.results10]) rfl ?_
          exact EndL.no He.out St1.out.old
        · by_cases h8 : 8000 < acc.length + q.length
          · have He : Hid (putL log = none) := by
              show _ = _
              rw [← Hg.out, Hd.out]
              exact putG_out (.inr (by rw [Hq.out]; exact h8))
            go_wp2_with fail
            refine bodyPost_ret (v := .tuple #[.slice none 0 0, .bool false]) (by simp [results, Tryd.results10]) rfl ?_
            exact EndL.no He.out St1.out.old
          · have Hg' : Hid (putG (acc ++ q) (log.drop (k + 1)) = putL log) := by
              show _ = _
              rw [← Hg.out, Hd.out, putG_in (by rw [Hq.out]; intro e; rw [e] at h0; exact h0 rfl) (by rw [Hq.out]; omega), Hq.out]
            clear Hg Hd Hq
            have h0' : ((q.length : Int) == 0) = false := by simp; intro e; rw [e] at h0; exact h0 rfl
            have h8' : ¬ (8000 - (acc.length : Int) < (q.length : Int)) := by omega
            go_wp2_with fail
            go_loopw [4, 7] (fun v i wx => ∃ (u : Value) (j : Nat) (t : List Int), u = v ∧ j ≤ q.length ∧ i = .int .i64 j ∧ Hid (t = acc ++ q.take j) ∧ BSt w.heap.size w wx u t ∧ Hid (Side u A1 lo hi q wx)) (fun _ i _ => q.length - (intOf i).toNat)
            case atStart => exact ⟨_, 0, acc, rfl, Nat.zero_le _, rfl, by show _ = _; simp, St1.out, V1⟩
            case round =>
              clear St1 V1
              obtain ⟨u, j, t, rfl, hj, rfl, Ht, hst, Hb⟩ := hrel
              have Hst := Lib.hid hst
              have z3 : w.heap.size ≤ wr.heap.size := hst.old.size
              clear hst
              have Hl : Hid (t.length = acc.length + j) := by show _ = _; rw [Ht.out, List.length_append, List.length_take]; omega
              by_cases hlj : j < q.length
              · obtain ⟨b', off', rfl, hc⟩ := Hb.out.row.bi (by omega)
                have hcj := hc j hlj
                have Hs : Hid (t ++ [q.getD j 0] = acc ++ q.take (j + 1)) := by
                  show _ = _
                  rw [Ht.out, List.take_add_one]
                  simp [hlj, List.getD_eq_getElem?_getD]
                clear hc
                generalize q.getD j 0 = y at hcj Hs
                go_wp2_with (at_builtin; refine wpList_append_lies _ rfl _ _ 22 rfl w.heap.size 5 i0 (.int .u8 0) 1 1 Tryd.underlying22 Hi0.out Hz0.out Hz1.out Hz2.out rfl (by decide) _ _ _ rfl (Hst.out.own.alloc _) ⟨wr.heap.size, 0, none⟩ 1 1 [.int .u8 y] rfl rfl ?c1h ?c2h ?c6h ?c3h ?c4h ?c5h (wr.heap.size + 1) ?c7h ?_)
                case c1h => exact new_one_at rfl _ _
                case c2h => simp [Value.oneCell']
                case c3h => have := Hl.out; unfold maxLen; omega
                case c4h => have := Hl.out; omega
                case c5h => first | omega | (simp; omega)
                case c6h => omega
                case c7h => simp
                · intro g' cap' w4 hown hgr hat _
                  have HQ := Lib.hid (Hst.out.step (Nat.le_refl _) hown hgr)
                  have HB := Lib.hid (Hb.out.step (n := t.length + 1) (cap := cap') hgr hat)
                  clear hown hgr hat
                  go_wp2
                  go_roundw
                  case rel => exact ⟨_, j + 1, _, rfl, by omega, by go_num, Hs, HQ.out, HB.out⟩
                  case measure => simp [intOf]; omega
              · obtain rfl : j = q.length := by omega
                have Ha : Hid (t = acc ++ q) := by show _ = _; rw [Ht.out, List.take_length]
                go_wp2
                go_roundw
                case rel => exact ⟨_, k + 1, t, rfl, by omega, by go_num, by show _ = _; rw [Ha.out]; exact Hg'.out, by rw [Hl.out]; omega, Hst.out⟩
                case measure => simp [intOf]; omega
      · obtain rfl : k = n := by omega
        have He : Hid (putL log = some acc) := by
          show _ = _
          have := Hg.out
          rw [List.drop_eq_nil_of_le (by have := Hn.out; omega)] at this
          rw [← this]
          rfl
        go_wp2_with fail
        refine bodyPost_ret (v := .tuple #[u, .bool true]) (by simp [results, Tryd.results10]) rfl ?_
        exact EndL.yes He.out Hst.out
end Go.Proofs.YtcgmeindiaaokaaDoor.By
