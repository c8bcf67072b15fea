/- The program's readConfig: the lines. -/
import Derived.Test.YtahfmgjchjjlmaaGreatDoorRc1
namespace Go.Proofs.YtahfmgjchjjlmaaGreatDoor.Fm
open Go.RowKit Go.Deep Base Cf Ct Num Parts

def dflt : Nat → Int := fun i => [1, 4, 30, 1000, 100, 40, 200, 2, 32, 50, 60, 5, 20, 50].getD i 0

def RcEnd (l : List UInt8) (w : World) (e : Ending) (w' : World) : Prop :=
  Below w.heap.size w w' ∧ ((∃ p, Ans dflt l zero14 (-1) ∧ e = .returned (.tuple #[.agg #[.int .i64 (zero14 0), .int .i64 (zero14 1), .int .i64 (zero14 2), .int .i64 (zero14 3), .int .i64 (zero14 4), .int .i64 (zero14 5), .int .i64 (zero14 6), .int .i64 (zero14 7), .int .i64 (zero14 8), .int .i64 (zero14 9), .int .i64 (zero14 10), .int .i64 (zero14 11), .int .i64 (zero14 12), .int .i64 (zero14 13)], .iface 141 (.pointer (some p))])) ∨
    (∃ k : Nat, k ≤ 1001 ∧ Ans dflt l zero14 ((k : Int) + 1) ∧ e = .returned (.tuple #[.agg #[.int .i64 (zero14 0), .int .i64 (zero14 1), .int .i64 (zero14 2), .int .i64 (zero14 3), .int .i64 (zero14 4), .int .i64 (zero14 5), .int .i64 (zero14 6), .int .i64 (zero14 7), .int .i64 (zero14 8), .int .i64 (zero14 9), .int .i64 (zero14 10), .int .i64 (zero14 11), .int .i64 (zero14 12), .int .i64 (zero14 13)], .iface 49 (.int .i64 ((k : Int) + 1))])) ∨
    (∃ c, Ans dflt l c 0 ∧ e = .returned (.tuple #[.agg #[.int .i64 (c 0), .int .i64 (c 1), .int .i64 (c 2), .int .i64 (c 3), .int .i64 (c 4), .int .i64 (c 5), .int .i64 (c 6), .int .i64 (c 7), .int .i64 (c 8), .int .i64 (c 9), .int .i64 (c 10), .int .i64 (c 11), .int .i64 (c 12), .int .i64 (c 13)], .nilIface])))

theorem Turn.refl (b mb : Nat) (w : World) : Turn b mb w w := ⟨rfl, rfl, rfl, Nat.le_refl _, fun _ _ _ _ => rfl⟩

theorem string_far {w : World} {g o b : Nat} {s : ByteArray} {c : Nat → Int} {t : TypeId} (h : w.cell? ⟨g, o, none⟩ = some (.string s)) (hb : w.heap[b]? = some (.cells #[.int .i64 (c 0), .int .i64 (c 1), .int .i64 (c 2), .int .i64 (c 3), .int .i64 (c 4), .int .i64 (c 5), .int .i64 (c 6), .int .i64 (c 7), .int .i64 (c 8), .int .i64 (c 9), .int .i64 (c 10), .int .i64 (c 11), .int .i64 (c 12), .int .i64 (c 13)] t (0, 0))) : g ≠ b := by
  rintro rfl
  rw [cell_of_row _ _ o _ _ (0, 0) hb] at h
  have := Array.mem_of_getElem? h
  simp at this

theorem map_far {w : World} {g o mb b : Nat} {v : Value} {l : List Nat} (h : w.cell? ⟨g, o, none⟩ = some v) (hb : Fm w mb b l) : g ≠ mb := by
  rintro rfl
  obtain ⟨es, q, h1, _⟩ := hb
  unfold World.cell? at h
  rw [h1] at h
  cases h

theorem St.row {w : World} {mb b : Nat} {c : Nat → Int} {d : Nat → Bool} (h : St w mb b c d) : w.heap[b]? = some (.cells #[.int .i64 (c 0), .int .i64 (c 1), .int .i64 (c 2), .int .i64 (c 3), .int .i64 (c 4), .int .i64 (c 5), .int .i64 (c 6), .int .i64 (c 7), .int .i64 (c 8), .int .i64 (c 9), .int .i64 (c 10), .int .i64 (c 11), .int .i64 (c 12), .int .i64 (c 13)] 25 (0, 0)) := by
  obtain ⟨l, h1, h2, h3, h4⟩ := h
  exact h2

/-- A line's text in memory while the configuration is being filled. -/
theorem line_at {w w' : World} {A : Option Addr} {ss : List ByteArray} {mb b k : Nat} {c : Nat → Int} {d : Nat → Bool} (h : Strs w A ss) (hS : St w mb b c d) (hT : Turn b mb w w') (hk : k < ss.length) :
    ∃ g off, A = some ⟨g, off, none⟩ ∧ w'.cell? ⟨g, off + k, none⟩ = some (.string (ss.getD k ByteArray.empty)) := by
  obtain ⟨g, off, hA, hc⟩ := h (by omega)
  obtain ⟨l, h1, h2, h3, h4⟩ := hS
  have hc1 := hc k hk
  have hlt := World.block_lt_of_cell? _ _ hc1
  exact ⟨g, off, hA, (World.cell?_of_block (hT.block g hlt (string_far hc1 h2) (map_far hc1 h1))).trans hc1⟩

theorem full_start {w : World} {mb b : Nat} {l : List Nat} {c : Nat → Int} (h : Fm w mb b l) (hf : Full l) (hr : w.heap[b]? = some (.cells #[.int .i64 (c 0), .int .i64 (c 1), .int .i64 (c 2), .int .i64 (c 3), .int .i64 (c 4), .int .i64 (c 5), .int .i64 (c 6), .int .i64 (c 7), .int .i64 (c 8), .int .i64 (c 9), .int .i64 (c 10), .int .i64 (c 11), .int .i64 (c 12), .int .i64 (c 13)] 25 (0, 0))) : St w mb b c fun _ => false :=
  ⟨l, h, hr, fun i => ⟨fun hi => ⟨hf.2.1 i hi, rfl⟩, fun hi => hf.1 i hi.1⟩, hf.2.2⟩

set_option maxRecDepth 100000 in
set_option maxHeartbeats 4000000 in
theorem readConfig_lines (s : ByteArray) (w : World) (hl : s.size ≤ 1000) (hv : Evp w "loop.example/g00722/impl.errConfigInvalid") (ht : Tab w) (he : Errs w) : Calls Tryz.prog 19 #[.string s] w (RcEnd s.data.toList w) := by
  have HV := Lib.hid hv
  have HT := Lib.hid ht
  have HE := Lib.hid he
  have hli : ¬ (1000 : Int) < (s.size : Int) := by omega
  have Hlen : Hid (s.data.toList.length ≤ 1000) := by
    have e : s.data.toList.length = s.size := by rw [Array.length_toList]; rfl
    exact (by omega : s.data.toList.length ≤ 1000)
  clear hv ht he
  go_enter Tryz.func19, Tryz.ntmps19
  go_wp2_with fail
  have hK := heap_alloc_new w (.cells #[.int .i64 (zero14 0), .int .i64 (zero14 1), .int .i64 (zero14 2), .int .i64 (zero14 3), .int .i64 (zero14 4), .int .i64 (zero14 5), .int .i64 (zero14 6), .int .i64 (zero14 7), .int .i64 (zero14 8), .int .i64 (zero14 9), .int .i64 (zero14 10), .int .i64 (zero14 11), .int .i64 (zero14 12), .int .i64 (zero14 13)] 25)
  have hB := bel_alloc w (.cells #[.int .i64 (zero14 0), .int .i64 (zero14 1), .int .i64 (zero14 2), .int .i64 (zero14 3), .int .i64 (zero14 4), .int .i64 (zero14 5), .int .i64 (zero14 6), .int .i64 (zero14 7), .int .i64 (zero14 8), .int .i64 (zero14 9), .int .i64 (zero14 10), .int .i64 (zero14 11), .int .i64 (zero14 12), .int .i64 (zero14 13)] 25)
  refine (implDefault_any _).mono ?_
  rintro e w1 ⟨rfl, b1⟩
  have z1 : w.heap.size < w1.heap.size := Nat.lt_of_lt_of_le (by simp) b1.size
  have K := Lib.hid ((b1.block w.heap.size (by simp)).trans hK)
  have B := Lib.hid (bel_trans hB b1)
  clear b1 hK hB
  obtain ⟨rb, hrb⟩ : ∃ rb, w.heap.size = rb := ⟨_, rfl⟩
  have HR := Lib.hid hrb
  rw [hrb] at K z1 ⊢
  clear hrb
  go_wp2_with fail
  have hK2 := heap_alloc_new w1 (.cells #[.int .i64 (dflt 0), .int .i64 (dflt 1), .int .i64 (dflt 2), .int .i64 (dflt 3), .int .i64 (dflt 4), .int .i64 (dflt 5), .int .i64 (dflt 6), .int .i64 (dflt 7), .int .i64 (dflt 8), .int .i64 (dflt 9), .int .i64 (dflt 10), .int .i64 (dflt 11), .int .i64 (dflt 12), .int .i64 (dflt 13)] 25)
  have K2 : Hid ((w1.alloc (.cells #[.int .i64 1, .int .i64 4, .int .i64 30, .int .i64 1000, .int .i64 100, .int .i64 40, .int .i64 200, .int .i64 2, .int .i64 32, .int .i64 50, .int .i64 60, .int .i64 5, .int .i64 20, .int .i64 50] 25)).heap[w1.heap.size]? = some (.cells #[.int .i64 (dflt 0), .int .i64 (dflt 1), .int .i64 (dflt 2), .int .i64 (dflt 3), .int .i64 (dflt 4), .int .i64 (dflt 5), .int .i64 (dflt 6), .int .i64 (dflt 7), .int .i64 (dflt 8), .int .i64 (dflt 9), .int .i64 (dflt 10), .int .i64 (dflt 11), .int .i64 (dflt 12), .int .i64 (dflt 13)] 25 (0, 0))) := hK2
  have K1 := Lib.hid (((bel_alloc w1 (.cells #[.int .i64 1, .int .i64 4, .int .i64 30, .int .i64 1000, .int .i64 100, .int .i64 40, .int .i64 200, .int .i64 2, .int .i64 32, .int .i64 50, .int .i64 60, .int .i64 5, .int .i64 20, .int .i64 50] 25)).block rb z1).trans K.out)
  have B2 := Lib.hid (bel_trans B.out (bel_alloc w1 (.cells #[.int .i64 1, .int .i64 4, .int .i64 30, .int .i64 1000, .int .i64 100, .int .i64 40, .int .i64 200, .int .i64 2, .int .i64 32, .int .i64 50, .int .i64 60, .int .i64 5, .int .i64 20, .int .i64 50] 25)))
  clear hK2 K B
  obtain ⟨cb, hcb⟩ : ∃ cb, w1.heap.size = cb := ⟨_, rfl⟩
  have z2 : cb < (w1.alloc (.cells #[.int .i64 1, .int .i64 4, .int .i64 30, .int .i64 1000, .int .i64 100, .int .i64 40, .int .i64 200, .int .i64 2, .int .i64 32, .int .i64 50, .int .i64 60, .int .i64 5, .int .i64 20, .int .i64 50] 25)).heap.size := by rw [← hcb]; simp
  have hrc : rb < cb := by rw [← hcb]; exact z1
  obtain ⟨W, hW⟩ : ∃ W, w1.alloc (.cells #[.int .i64 1, .int .i64 4, .int .i64 30, .int .i64 1000, .int .i64 100, .int .i64 40, .int .i64 200, .int .i64 2, .int .i64 32, .int .i64 50, .int .i64 60, .int .i64 5, .int .i64 20, .int .i64 50] 25) = W := ⟨_, rfl⟩
  rw [hW] at K1 K2 B2 z2
  rw [hcb] at K2
  rw [hW, hcb]
  clear hW hcb z1
  go_wp2_with fail
  refine (fields_any cb _).mono ?_
  rintro e w2 ⟨l, rfl, hfull, hF, b2⟩
  obtain ⟨mb, hmb⟩ : ∃ mb, W.heap.size = mb := ⟨_, rfl⟩
  rw [hmb] at hF ⊢
  have hcm : cb < mb := by rw [← hmb]; exact z2
  have S2 := Lib.hid (full_start hF hfull ((b2.block cb z2).trans K2.out))
  replace K1 := Lib.hid ((b2.block rb (by omega)).trans K1.out)
  replace B2 := Lib.hid (bel_trans B2.out b2)
  clear b2 hF hfull K2 z2 hmb
  go_wp2_with fail
  refine (linesOf_any s _ (by omega)).mono ?_
  rintro e w3 ⟨A, n, cap, ss, rfl, hn, hnl, hstr, hmap, b3⟩
  have zr := Cv.row_lt K1.out
  replace S2 := Lib.hid (S2.out.below b3)
  replace K1 := Lib.hid ((b3.block rb zr).trans K1.out)
  replace B2 := Lib.hid (bel_trans B2.out b3)
  have HS := Lib.hid hstr
  have HM := Lib.hid hmap
  have Hn := Lib.hid hn
  have hnb : n ≤ 1001 := by have := Hlen.out; omega
  replace zr := Cv.row_lt K1.out
  clear b3 hstr hmap hn hnl
  go_wp2
  go_loopw [19] (fun i wr => ∃ (k : Nat) (c : Nat → Int) (d : Nat → Bool), k ≤ n ∧ i = .int .i64 k ∧ afterL dflt (linesT s.data.toList) k = some (c, d) ∧ St wr mb cb c d ∧ Turn cb mb w3 wr) (fun i _ => n - (intOf i).toNat)
  case atStart => exact ⟨0, dflt, _, Nat.zero_le _, rfl, rfl, S2.out, Turn.refl _ _ _⟩
  case round =>
    obtain ⟨k, c, d, hk, rfl, haft, hSt, hTu⟩ := hrel
    have HA := Lib.hid haft
    have HSt := Lib.hid hSt
    have HTu := Lib.hid hTu
    clear haft hSt hTu
    by_cases hlt : k < n
    · obtain ⟨g, off, rfl, hcell⟩ := line_at HS.out S2.out HTu.out (by rw [Hn.out]; exact hlt)
      have hls := line_size HM.out Hlen.out (by rw [Hn.out]; exact hlt)
      have HST := Lib.hid (after_step HA.out)
      rw [hls.2] at HST
      have hxs := hls.1
      clear hls
      generalize ss.getD k ByteArray.empty = x at hcell HST hxs
      have hk0 : (0 : Int) ≤ (k : Int) := by omega
      have hk1 : (k : Int) < (n : Int) := by omega
      by_cases hx0 : x.size = 0
      · have hxe : x = ⟨#[]⟩ := by
          obtain ⟨⟨q⟩⟩ := x
          cases q
          · rfl
          · simp [ByteArray.size] at hx0
        subst hxe
        have HL : Hid (afterL dflt (linesT s.data.toList) (k + 1) = some (c, d)) := HST.out
        go_wp2
        go_roundw
        case rel => exact ⟨k + 1, c, d, by omega, by go_num, HL.out, HSt.out, HTu.out⟩
        case measure => simp [intOf]; omega
      · have hx1 : x.toList.isEmpty = false := by
          rw [ByteArray.toList_eq]
          cases h : x.data.toList with
          | nil =>
            exfalso
            apply hx0
            have := congrArg List.length h
            rw [Array.length_toList] at this
            exact this
          | cons a q => rfl
        have hx2 : x.data.toList ≠ [] := by
          rw [ByteArray.toList_eq] at hx1
          intro e
          rw [e] at hx1
          cases hx1
        have HX2 := Lib.hid hx2
        clear hx2
        go_wp2_with fail
        refine (Tryz.strings_HasPrefix x ⟨#[35]⟩ _).mono ?_
        rintro e w4 ⟨rfl, hw⟩
        subst hw
        rw [show (⟨#[35]⟩ : ByteArray).data.toList = [35] from rfl]
        by_cases hh : x.data.toList.head? = some 35
        · have hp : Lib.hasPrefix x.data.toList [35] = true := by
            cases h : x.data.toList with
            | nil => rw [h] at hh; cases hh
            | cons a q =>
              rw [h] at hh
              have : a = 35 := by simpa using hh
              subst this
              simp [Lib.hasPrefix]
          rw [hp]
          have HL : Hid (afterL dflt (linesT s.data.toList) (k + 1) = some (c, d)) := by
            have h := HST.out
            unfold lineL at h
            rw [if_pos (.inr hh)] at h
            exact h
          clear hh hp
          go_wp2
          go_roundw
          case rel => exact ⟨k + 1, c, d, by omega, by go_num, HL.out, HSt.out, HTu.out⟩
          case measure => simp [intOf]; omega
        · have hp : Lib.hasPrefix x.data.toList [35] = false := by
            cases h : x.data.toList with
            | nil => rfl
            | cons a q =>
              rw [h] at hh
              have : ¬ 35 = a := fun e => hh (by rw [e]; rfl)
              simp [Lib.hasPrefix, List.isPrefixOf, this]
          rw [hp]
          have HL : Hid (afterL dflt (linesT s.data.toList) (k + 1) = setL c d x.data.toList) := by
            have h := HST.out
            unfold lineL at h
            rw [if_neg (fun h => h.elim HX2.out hh)] at h
            exact h
          clear hh hp
          have HB := Lib.hid (HTu.out.below B2.out (by have := HR.out; omega) (by have := HR.out; omega))
          go_wp2_with fail
          refine (setField_any c d x mb cb _ (by omega) (HT.out.below HB.out) (HE.out.below HB.out) HSt.out).mono ?_
          rintro e w5 (⟨hno, rfl, hT5⟩ | ⟨c', d', hyes, rfl, hS5, hT5⟩)
          · have HAns : Hid (Ans dflt s.data.toList zero14 ((k : Int) + 1)) := .inr ⟨Hlen.out, .inl ⟨k, by rw [← HM.out, List.length_map, Hn.out]; exact hlt, by rw [HA.out]; simp, by rw [HL.out, hno], rfl, rfl⟩⟩
            have HT5 := Lib.hid (HTu.out.trans hT5)
            have K5 := Lib.hid ((HT5.out.block rb zr (by omega) (by omega)).trans K1.out)
            have B5 := Lib.hid (HT5.out.below B2.out (by have := HR.out; omega) (by have := HR.out; omega))
            clear hno hT5 HB
            have y0 : w5.cell? ⟨rb, 0, none⟩ = some (.int .i64 (zero14 0)) := cell_of_row _ _ 0 _ _ (0, 0) K5.out
            have y1 : w5.cell? ⟨rb, 1, none⟩ = some (.int .i64 (zero14 1)) := cell_of_row _ _ 1 _ _ (0, 0) K5.out
            have y2 : w5.cell? ⟨rb, 2, none⟩ = some (.int .i64 (zero14 2)) := cell_of_row _ _ 2 _ _ (0, 0) K5.out
            have y3 : w5.cell? ⟨rb, 3, none⟩ = some (.int .i64 (zero14 3)) := cell_of_row _ _ 3 _ _ (0, 0) K5.out
            have y4 : w5.cell? ⟨rb, 4, none⟩ = some (.int .i64 (zero14 4)) := cell_of_row _ _ 4 _ _ (0, 0) K5.out
            have y5 : w5.cell? ⟨rb, 5, none⟩ = some (.int .i64 (zero14 5)) := cell_of_row _ _ 5 _ _ (0, 0) K5.out
            have y6 : w5.cell? ⟨rb, 6, none⟩ = some (.int .i64 (zero14 6)) := cell_of_row _ _ 6 _ _ (0, 0) K5.out
            have y7 : w5.cell? ⟨rb, 7, none⟩ = some (.int .i64 (zero14 7)) := cell_of_row _ _ 7 _ _ (0, 0) K5.out
            have y8 : w5.cell? ⟨rb, 8, none⟩ = some (.int .i64 (zero14 8)) := cell_of_row _ _ 8 _ _ (0, 0) K5.out
            have y9 : w5.cell? ⟨rb, 9, none⟩ = some (.int .i64 (zero14 9)) := cell_of_row _ _ 9 _ _ (0, 0) K5.out
            have y10 : w5.cell? ⟨rb, 10, none⟩ = some (.int .i64 (zero14 10)) := cell_of_row _ _ 10 _ _ (0, 0) K5.out
            have y11 : w5.cell? ⟨rb, 11, none⟩ = some (.int .i64 (zero14 11)) := cell_of_row _ _ 11 _ _ (0, 0) K5.out
            have y12 : w5.cell? ⟨rb, 12, none⟩ = some (.int .i64 (zero14 12)) := cell_of_row _ _ 12 _ _ (0, 0) K5.out
            have y13 : w5.cell? ⟨rb, 13, none⟩ = some (.int .i64 (zero14 13)) := cell_of_row _ _ 13 _ _ (0, 0) K5.out
            have yf : ∀ j, w5.frozen? ⟨rb, j, none⟩ = false := fun j => frozen_of_row _ _ j _ _ K5.out
            go_wp2
            refine bodyPost_ret (v := .tuple #[.agg #[.int .i64 (zero14 0), .int .i64 (zero14 1), .int .i64 (zero14 2), .int .i64 (zero14 3), .int .i64 (zero14 4), .int .i64 (zero14 5), .int .i64 (zero14 6), .int .i64 (zero14 7), .int .i64 (zero14 8), .int .i64 (zero14 9), .int .i64 (zero14 10), .int .i64 (zero14 11), .int .i64 (zero14 12), .int .i64 (zero14 13)], .iface 49 (.int .i64 ((k : Int) + 1))]) (by simp [results, Tryz.results19, go_sem, zero14, y0, y1, y2, y3, y4, y5, y6, y7, y8, y9, y10, y11, y12, y13]) rfl ⟨?_, .inr (.inl ⟨k, by omega, HAns.out, rfl⟩)⟩
            exact st14_below B5.out (by have := HR.out; omega) zero14 rfl
          · have HL2 : Hid (afterL dflt (linesT s.data.toList) (k + 1) = some (c', d')) := by rw [HL.out, hyes]; exact rfl
            have HS5 := Lib.hid hS5
            have HT5 := Lib.hid (HTu.out.trans hT5)
            clear hS5 hT5 hyes HB
            go_wp2
            go_roundw
            case rel => exact ⟨k + 1, c', d', by omega, by go_num, HL2.out, HS5.out, HT5.out⟩
            case measure => simp [intOf]; omega
    · obtain rfl : k = n := by omega
      have K5 := Lib.hid ((HTu.out.block rb zr (by omega) (by omega)).trans K1.out)
      have B5 := Lib.hid (HTu.out.below B2.out (by have := HR.out; omega) (by have := HR.out; omega))
      have HF : Hid (afterL dflt (linesT s.data.toList) (linesT s.data.toList).length = some (c, d)) := by
        have e : (linesT s.data.toList).length = k := by rw [← HM.out, List.length_map, Hn.out]
        rw [e]
        exact HA.out
      have hrow := HSt.out.row
      have x0 : wr.cell? ⟨cb, 0, none⟩ = some (.int .i64 (c 0)) := cell_of_row _ _ 0 _ _ (0, 0) hrow
      have x1 : wr.cell? ⟨cb, 1, none⟩ = some (.int .i64 (c 1)) := cell_of_row _ _ 1 _ _ (0, 0) hrow
      have x2 : wr.cell? ⟨cb, 2, none⟩ = some (.int .i64 (c 2)) := cell_of_row _ _ 2 _ _ (0, 0) hrow
      have x3 : wr.cell? ⟨cb, 3, none⟩ = some (.int .i64 (c 3)) := cell_of_row _ _ 3 _ _ (0, 0) hrow
      have x4 : wr.cell? ⟨cb, 4, none⟩ = some (.int .i64 (c 4)) := cell_of_row _ _ 4 _ _ (0, 0) hrow
      have x5 : wr.cell? ⟨cb, 5, none⟩ = some (.int .i64 (c 5)) := cell_of_row _ _ 5 _ _ (0, 0) hrow
      have x6 : wr.cell? ⟨cb, 6, none⟩ = some (.int .i64 (c 6)) := cell_of_row _ _ 6 _ _ (0, 0) hrow
      have x7 : wr.cell? ⟨cb, 7, none⟩ = some (.int .i64 (c 7)) := cell_of_row _ _ 7 _ _ (0, 0) hrow
      have x8 : wr.cell? ⟨cb, 8, none⟩ = some (.int .i64 (c 8)) := cell_of_row _ _ 8 _ _ (0, 0) hrow
      have x9 : wr.cell? ⟨cb, 9, none⟩ = some (.int .i64 (c 9)) := cell_of_row _ _ 9 _ _ (0, 0) hrow
      have x10 : wr.cell? ⟨cb, 10, none⟩ = some (.int .i64 (c 10)) := cell_of_row _ _ 10 _ _ (0, 0) hrow
      have x11 : wr.cell? ⟨cb, 11, none⟩ = some (.int .i64 (c 11)) := cell_of_row _ _ 11 _ _ (0, 0) hrow
      have x12 : wr.cell? ⟨cb, 12, none⟩ = some (.int .i64 (c 12)) := cell_of_row _ _ 12 _ _ (0, 0) hrow
      have x13 : wr.cell? ⟨cb, 13, none⟩ = some (.int .i64 (c 13)) := cell_of_row _ _ 13 _ _ (0, 0) hrow
      clear hrow
      go_wp2_with fail
      clear x0 x1 x2 x3 x4 x5 x6 x7 x8 x9 x10 x11 x12 x13
      refine (implConfigOk_any c _).mono ?_
      rintro e w6 ⟨rfl, b6⟩
      have K6 := Lib.hid ((b6.block rb (Cv.row_lt K5.out)).trans K5.out)
      have C6 := Lib.hid ((b6.block cb (Cv.row_lt HSt.out.row)).trans HSt.out.row)
      have B6 := Lib.hid (bel_trans B5.out b6)
      clear b6 K5
      cases hok : okC c with
      | false =>
        have HAns : Hid (Ans dflt s.data.toList zero14 (-1)) := .inr ⟨Hlen.out, .inr ⟨c, d, HF.out, .inr ⟨hok, rfl, rfl⟩⟩⟩
        clear hok C6
        obtain ⟨p, hvp⟩ := HV.out
        have hcp : w.cell? ⟨1, 0, none⟩ = some (.iface 141 (.pointer (some p))) := by
          have h := World.var?_cell gInv hvp 0
          simpa using h
        have hltp : 1 < w.heap.size := World.block_lt_of_cell? _ _ hcp
        have HG := Lib.hid ((B6.out.cell (p := ⟨1, 0, none⟩) hltp).trans hcp)
        have HN : Hid (1 ≠ rb) := by have := HR.out; exact Nat.ne_of_lt (by omega)
        clear hvp hcp hltp
        go_wp2_with fail
        have HS0 : Hid (w6.drew.cell? ⟨1, 0, none⟩ = some (.iface 141 (.pointer (some p)))) := HG.out
        refine wp_region_held_drew (S := fun V => V.cell? ⟨1, 0, none⟩ = some (.iface 141 (.pointer (some p)))) (by kernel_rfl) HS0.out (fun _ => ?_)
        refine wpAnyH_take (i := 0) (v := (.agg #[.int .i64 0, .int .i64 0, .int .i64 0, .int .i64 0, .int .i64 0, .int .i64 0, .int .i64 0, .int .i64 0, .int .i64 0, .int .i64 0, .int .i64 0, .int .i64 0, .int .i64 0, .int .i64 0])) rfl (by kernel_rfl) (by kernel_rfl) (by kernel_rfl) (fun _ _ _ h => h) (.inl ⟨rfl, fun V hS => ?y0⟩) (HS0).out ?_
        case y0 => go_simp
        go_simp
        refine wpAnyH_take (i := 1) (v := (.iface 141 (.pointer (some p)))) rfl (by kernel_rfl) (by kernel_rfl) (by kernel_rfl) (fun _ _ _ h => h) (.inl ⟨rfl, fun V hS => ?y0⟩) (HS0).out ?_
        case y0 => go_simp
        go_simp
        have K0 : Hid (w6.drew.heap[rb]? = some (.cells #[.int .i64 (zero14 0), .int .i64 (zero14 1), .int .i64 (zero14 2), .int .i64 (zero14 3), .int .i64 (zero14 4), .int .i64 (zero14 5), .int .i64 (zero14 6), .int .i64 (zero14 7), .int .i64 (zero14 8), .int .i64 (zero14 9), .int .i64 (zero14 10), .int .i64 (zero14 11), .int .i64 (zero14 12), .int .i64 (zero14 13)] 25 (0, 0))) := K6.out
        have B0 : Hid (Below w.heap.size w w6.drew) := B6.out.drew
        obtain ⟨X, hX⟩ : ∃ X, w6.drew = X := ⟨_, rfl⟩
        rw [hX] at K0 B0 HS0 ⊢
        clear hX HG
        have y0 : X.cell? ⟨rb, 0, none⟩ = some (.int .i64 (zero14 0)) := cell_of_row _ _ 0 _ _ (0, 0) K0.out
        have y1 : X.cell? ⟨rb, 1, none⟩ = some (.int .i64 (zero14 1)) := cell_of_row _ _ 1 _ _ (0, 0) K0.out
        have y2 : X.cell? ⟨rb, 2, none⟩ = some (.int .i64 (zero14 2)) := cell_of_row _ _ 2 _ _ (0, 0) K0.out
        have y3 : X.cell? ⟨rb, 3, none⟩ = some (.int .i64 (zero14 3)) := cell_of_row _ _ 3 _ _ (0, 0) K0.out
        have y4 : X.cell? ⟨rb, 4, none⟩ = some (.int .i64 (zero14 4)) := cell_of_row _ _ 4 _ _ (0, 0) K0.out
        have y5 : X.cell? ⟨rb, 5, none⟩ = some (.int .i64 (zero14 5)) := cell_of_row _ _ 5 _ _ (0, 0) K0.out
        have y6 : X.cell? ⟨rb, 6, none⟩ = some (.int .i64 (zero14 6)) := cell_of_row _ _ 6 _ _ (0, 0) K0.out
        have y7 : X.cell? ⟨rb, 7, none⟩ = some (.int .i64 (zero14 7)) := cell_of_row _ _ 7 _ _ (0, 0) K0.out
        have y8 : X.cell? ⟨rb, 8, none⟩ = some (.int .i64 (zero14 8)) := cell_of_row _ _ 8 _ _ (0, 0) K0.out
        have y9 : X.cell? ⟨rb, 9, none⟩ = some (.int .i64 (zero14 9)) := cell_of_row _ _ 9 _ _ (0, 0) K0.out
        have y10 : X.cell? ⟨rb, 10, none⟩ = some (.int .i64 (zero14 10)) := cell_of_row _ _ 10 _ _ (0, 0) K0.out
        have y11 : X.cell? ⟨rb, 11, none⟩ = some (.int .i64 (zero14 11)) := cell_of_row _ _ 11 _ _ (0, 0) K0.out
        have y12 : X.cell? ⟨rb, 12, none⟩ = some (.int .i64 (zero14 12)) := cell_of_row _ _ 12 _ _ (0, 0) K0.out
        have y13 : X.cell? ⟨rb, 13, none⟩ = some (.int .i64 (zero14 13)) := cell_of_row _ _ 13 _ _ (0, 0) K0.out
        have yf : ∀ j, X.frozen? ⟨rb, j, none⟩ = false := fun j => frozen_of_row _ _ j _ _ K0.out
        refine wpAnyH_ready (rs := [2]) (by kernel_rfl) (by simp) (AllReadyH.cons rfl (fun J hJ => ?_) AllReadyH.nil)
        go_simp
        obtain ⟨V, hV⟩ : ∃ V, ((((((((((((((X.setCell ⟨rb, 0, none⟩ (.int .i64 0)).setCell ⟨rb, 1, none⟩ (.int .i64 0)).setCell ⟨rb, 2, none⟩ (.int .i64 0)).setCell ⟨rb, 3, none⟩ (.int .i64 0)).setCell ⟨rb, 4, none⟩ (.int .i64 0)).setCell ⟨rb, 5, none⟩ (.int .i64 0)).setCell ⟨rb, 6, none⟩ (.int .i64 0)).setCell ⟨rb, 7, none⟩ (.int .i64 0)).setCell ⟨rb, 8, none⟩ (.int .i64 0)).setCell ⟨rb, 9, none⟩ (.int .i64 0)).setCell ⟨rb, 10, none⟩ (.int .i64 0)).setCell ⟨rb, 11, none⟩ (.int .i64 0)).setCell ⟨rb, 12, none⟩ (.int .i64 0)).setCell ⟨rb, 13, none⟩ (.int .i64 0)) = V := ⟨_, rfl⟩
        rw [hV]
        have hV2 : ((((((((((((((X.setCell ⟨rb, 0, none⟩ (.int .i64 (zero14 0))).setCell ⟨rb, 1, none⟩ (.int .i64 (zero14 1))).setCell ⟨rb, 2, none⟩ (.int .i64 (zero14 2))).setCell ⟨rb, 3, none⟩ (.int .i64 (zero14 3))).setCell ⟨rb, 4, none⟩ (.int .i64 (zero14 4))).setCell ⟨rb, 5, none⟩ (.int .i64 (zero14 5))).setCell ⟨rb, 6, none⟩ (.int .i64 (zero14 6))).setCell ⟨rb, 7, none⟩ (.int .i64 (zero14 7))).setCell ⟨rb, 8, none⟩ (.int .i64 (zero14 8))).setCell ⟨rb, 9, none⟩ (.int .i64 (zero14 9))).setCell ⟨rb, 10, none⟩ (.int .i64 (zero14 10))).setCell ⟨rb, 11, none⟩ (.int .i64 (zero14 11))).setCell ⟨rb, 12, none⟩ (.int .i64 (zero14 12))).setCell ⟨rb, 13, none⟩ (.int .i64 (zero14 13))) = V := hV
        have h0 := st14_other (k := 1) HN.out zero14 hV2
        have HS1 : Hid (V.cell? ⟨1, 0, none⟩ = some (.iface 141 (.pointer (some p)))) := (World.cell?_of_block (a := ⟨1, 0, none⟩) h0).trans HS0.out
        have B1 := Lib.hid (st14_below B0.out (by have := HR.out; omega) zero14 hV2)
        have K9 := Lib.hid (st14_row K0.out zero14 hV2)
        clear h0
        clear hV hV2 K0 B0 HS0
        refine hJ.out _ _ HS1.out (fun _ => ?_)
        clear hJ J y0 y1 y2 y3 y4 y5 y6 y7 y8 y9 y10 y11 y12 y13 yf
        go_simp
        refine wpAnyH_take (i := 3) (v := (.iface 141 (.pointer (some p)))) rfl (by kernel_rfl) (by kernel_rfl) (by kernel_rfl) (fun _ _ _ h => h) (.inl ⟨rfl, fun V hS => ?y0⟩) (HS1).out ?_
        case y0 => go_simp
        go_simp
        refine wpAnyH_done (by kernel_rfl) ?_ _
        have y0 : V.cell? ⟨rb, 0, none⟩ = some (.int .i64 (zero14 0)) := cell_of_row _ _ 0 _ _ (0, 0) K9.out
        have y1 : V.cell? ⟨rb, 1, none⟩ = some (.int .i64 (zero14 1)) := cell_of_row _ _ 1 _ _ (0, 0) K9.out
        have y2 : V.cell? ⟨rb, 2, none⟩ = some (.int .i64 (zero14 2)) := cell_of_row _ _ 2 _ _ (0, 0) K9.out
        have y3 : V.cell? ⟨rb, 3, none⟩ = some (.int .i64 (zero14 3)) := cell_of_row _ _ 3 _ _ (0, 0) K9.out
        have y4 : V.cell? ⟨rb, 4, none⟩ = some (.int .i64 (zero14 4)) := cell_of_row _ _ 4 _ _ (0, 0) K9.out
        have y5 : V.cell? ⟨rb, 5, none⟩ = some (.int .i64 (zero14 5)) := cell_of_row _ _ 5 _ _ (0, 0) K9.out
        have y6 : V.cell? ⟨rb, 6, none⟩ = some (.int .i64 (zero14 6)) := cell_of_row _ _ 6 _ _ (0, 0) K9.out
        have y7 : V.cell? ⟨rb, 7, none⟩ = some (.int .i64 (zero14 7)) := cell_of_row _ _ 7 _ _ (0, 0) K9.out
        have y8 : V.cell? ⟨rb, 8, none⟩ = some (.int .i64 (zero14 8)) := cell_of_row _ _ 8 _ _ (0, 0) K9.out
        have y9 : V.cell? ⟨rb, 9, none⟩ = some (.int .i64 (zero14 9)) := cell_of_row _ _ 9 _ _ (0, 0) K9.out
        have y10 : V.cell? ⟨rb, 10, none⟩ = some (.int .i64 (zero14 10)) := cell_of_row _ _ 10 _ _ (0, 0) K9.out
        have y11 : V.cell? ⟨rb, 11, none⟩ = some (.int .i64 (zero14 11)) := cell_of_row _ _ 11 _ _ (0, 0) K9.out
        have y12 : V.cell? ⟨rb, 12, none⟩ = some (.int .i64 (zero14 12)) := cell_of_row _ _ 12 _ _ (0, 0) K9.out
        have y13 : V.cell? ⟨rb, 13, none⟩ = some (.int .i64 (zero14 13)) := cell_of_row _ _ 13 _ _ (0, 0) K9.out
        go_wp2
        exact bodyPost_ret (v := .tuple #[.agg #[.int .i64 (zero14 0), .int .i64 (zero14 1), .int .i64 (zero14 2), .int .i64 (zero14 3), .int .i64 (zero14 4), .int .i64 (zero14 5), .int .i64 (zero14 6), .int .i64 (zero14 7), .int .i64 (zero14 8), .int .i64 (zero14 9), .int .i64 (zero14 10), .int .i64 (zero14 11), .int .i64 (zero14 12), .int .i64 (zero14 13)], .iface 141 (.pointer (some p))]) (by simp [results, Tryz.results19, go_sem, y0, y1, y2, y3, y4, y5, y6, y7, y8, y9, y10, y11, y12, y13]) rfl ⟨B1.out, .inl ⟨p, HAns.out, rfl⟩⟩
      | true =>
        have HAns : Hid (Ans dflt s.data.toList c 0) := .inr ⟨Hlen.out, .inr ⟨c, d, HF.out, .inl ⟨hok, rfl, rfl⟩⟩⟩
        clear hok
        have y0 : w6.cell? ⟨rb, 0, none⟩ = some (.int .i64 (zero14 0)) := cell_of_row _ _ 0 _ _ (0, 0) K6.out
        have y1 : w6.cell? ⟨rb, 1, none⟩ = some (.int .i64 (zero14 1)) := cell_of_row _ _ 1 _ _ (0, 0) K6.out
        have y2 : w6.cell? ⟨rb, 2, none⟩ = some (.int .i64 (zero14 2)) := cell_of_row _ _ 2 _ _ (0, 0) K6.out
        have y3 : w6.cell? ⟨rb, 3, none⟩ = some (.int .i64 (zero14 3)) := cell_of_row _ _ 3 _ _ (0, 0) K6.out
        have y4 : w6.cell? ⟨rb, 4, none⟩ = some (.int .i64 (zero14 4)) := cell_of_row _ _ 4 _ _ (0, 0) K6.out
        have y5 : w6.cell? ⟨rb, 5, none⟩ = some (.int .i64 (zero14 5)) := cell_of_row _ _ 5 _ _ (0, 0) K6.out
        have y6 : w6.cell? ⟨rb, 6, none⟩ = some (.int .i64 (zero14 6)) := cell_of_row _ _ 6 _ _ (0, 0) K6.out
        have y7 : w6.cell? ⟨rb, 7, none⟩ = some (.int .i64 (zero14 7)) := cell_of_row _ _ 7 _ _ (0, 0) K6.out
        have y8 : w6.cell? ⟨rb, 8, none⟩ = some (.int .i64 (zero14 8)) := cell_of_row _ _ 8 _ _ (0, 0) K6.out
        have y9 : w6.cell? ⟨rb, 9, none⟩ = some (.int .i64 (zero14 9)) := cell_of_row _ _ 9 _ _ (0, 0) K6.out
        have y10 : w6.cell? ⟨rb, 10, none⟩ = some (.int .i64 (zero14 10)) := cell_of_row _ _ 10 _ _ (0, 0) K6.out
        have y11 : w6.cell? ⟨rb, 11, none⟩ = some (.int .i64 (zero14 11)) := cell_of_row _ _ 11 _ _ (0, 0) K6.out
        have y12 : w6.cell? ⟨rb, 12, none⟩ = some (.int .i64 (zero14 12)) := cell_of_row _ _ 12 _ _ (0, 0) K6.out
        have y13 : w6.cell? ⟨rb, 13, none⟩ = some (.int .i64 (zero14 13)) := cell_of_row _ _ 13 _ _ (0, 0) K6.out
        have x0 : w6.cell? ⟨cb, 0, none⟩ = some (.int .i64 (c 0)) := cell_of_row _ _ 0 _ _ (0, 0) C6.out
        have x1 : w6.cell? ⟨cb, 1, none⟩ = some (.int .i64 (c 1)) := cell_of_row _ _ 1 _ _ (0, 0) C6.out
        have x2 : w6.cell? ⟨cb, 2, none⟩ = some (.int .i64 (c 2)) := cell_of_row _ _ 2 _ _ (0, 0) C6.out
        have x3 : w6.cell? ⟨cb, 3, none⟩ = some (.int .i64 (c 3)) := cell_of_row _ _ 3 _ _ (0, 0) C6.out
        have x4 : w6.cell? ⟨cb, 4, none⟩ = some (.int .i64 (c 4)) := cell_of_row _ _ 4 _ _ (0, 0) C6.out
        have x5 : w6.cell? ⟨cb, 5, none⟩ = some (.int .i64 (c 5)) := cell_of_row _ _ 5 _ _ (0, 0) C6.out
        have x6 : w6.cell? ⟨cb, 6, none⟩ = some (.int .i64 (c 6)) := cell_of_row _ _ 6 _ _ (0, 0) C6.out
        have x7 : w6.cell? ⟨cb, 7, none⟩ = some (.int .i64 (c 7)) := cell_of_row _ _ 7 _ _ (0, 0) C6.out
        have x8 : w6.cell? ⟨cb, 8, none⟩ = some (.int .i64 (c 8)) := cell_of_row _ _ 8 _ _ (0, 0) C6.out
        have x9 : w6.cell? ⟨cb, 9, none⟩ = some (.int .i64 (c 9)) := cell_of_row _ _ 9 _ _ (0, 0) C6.out
        have x10 : w6.cell? ⟨cb, 10, none⟩ = some (.int .i64 (c 10)) := cell_of_row _ _ 10 _ _ (0, 0) C6.out
        have x11 : w6.cell? ⟨cb, 11, none⟩ = some (.int .i64 (c 11)) := cell_of_row _ _ 11 _ _ (0, 0) C6.out
        have x12 : w6.cell? ⟨cb, 12, none⟩ = some (.int .i64 (c 12)) := cell_of_row _ _ 12 _ _ (0, 0) C6.out
        have x13 : w6.cell? ⟨cb, 13, none⟩ = some (.int .i64 (c 13)) := cell_of_row _ _ 13 _ _ (0, 0) C6.out
        have yf : ∀ j, w6.frozen? ⟨rb, j, none⟩ = false := fun j => frozen_of_row _ _ j _ _ K6.out
        go_wp2
        refine bodyPost_ret (v := .tuple #[.agg #[.int .i64 (c 0), .int .i64 (c 1), .int .i64 (c 2), .int .i64 (c 3), .int .i64 (c 4), .int .i64 (c 5), .int .i64 (c 6), .int .i64 (c 7), .int .i64 (c 8), .int .i64 (c 9), .int .i64 (c 10), .int .i64 (c 11), .int .i64 (c 12), .int .i64 (c 13)], .nilIface]) (by simp [results, Tryz.results19, go_sem, y0, y1, y2, y3, y4, y5, y6, y7, y8, y9, y10, y11, y12, y13]) rfl ⟨?_, .inr (.inr ⟨c, HAns.out, rfl⟩)⟩
        exact st14_below B6.out (by have := HR.out; omega) c rfl
end Go.Proofs.YtahfmgjchjjlmaaGreatDoor.Fm
