/- The reference's ParseConfig over the lines of a text that ends with a newline. -/
import Derived.Test.YtahfmgjchjjlmaaDoorSp1
namespace Go.Proofs.YtahfmgjchjjlmaaDoor.Fm
open Go.RowKit Go.Deep Base Cf Ct Num Parts

theorem last_cut {ss : List ByteArray} {l : List UInt8} {m : Nat} (h : ss.map (·.data.toList) = parts 10 l) (hn : ss.length = m + 1) (he : (parts 10 l).getLast? = some []) : (ss.getD m ByteArray.empty).size = 0 := by
  have hm : m < ss.length := by omega
  have e1 : ss.getD m ByteArray.empty = ss[m] := by rw [List.getD_eq_getElem?_getD, List.getElem?_eq_getElem hm]; rfl
  rw [← h, List.getLast?_eq_getElem?, List.length_map, hn, Nat.add_sub_cancel, List.getElem?_map, List.getElem?_eq_getElem hm] at he
  have h2 : ss[m].data.toList = [] := Option.some.inj he
  have h3 := congrArg List.length h2
  rw [Array.length_toList] at h3
  rw [e1]
  exact h3

set_option maxRecDepth 100000 in
set_option maxHeartbeats 4000000 in
theorem specParse_cut (s : ByteArray) (w : World) (hl : s.size ≤ 1000) (hE : (parts 10 s.data.toList).getLast? = some []) : Calls Tryd.prog 8 #[.string s] w (SpEnd s.data.toList w) := by
  have HE := Lib.hid hE
  clear hE
  have hli : ¬ (1000 : Int) < (s.size : Int) := by omega
  have Hlen : Hid (s.data.toList.length ≤ 1000) := by
    have e : s.data.toList.length = s.size := by rw [Array.length_toList]; rfl
    exact (by omega : s.data.toList.length ≤ 1000)
  go_enter Tryd.func8, Tryd.ntmps8
  go_wp2_with fail
  have hK := heap_alloc_new w (.cells #[.int .i64 (zero14 0), .int .i64 (zero14 1), .int .i64 (zero14 2), .int .i64 (zero14 3), .int .i64 (zero14 4), .int .i64 (zero14 5), .int .i64 (zero14 6), .int .i64 (zero14 7), .int .i64 (zero14 8), .int .i64 (zero14 9), .int .i64 (zero14 10), .int .i64 (zero14 11), .int .i64 (zero14 12), .int .i64 (zero14 13)] 26)
  have hB := bel_alloc w (.cells #[.int .i64 (zero14 0), .int .i64 (zero14 1), .int .i64 (zero14 2), .int .i64 (zero14 3), .int .i64 (zero14 4), .int .i64 (zero14 5), .int .i64 (zero14 6), .int .i64 (zero14 7), .int .i64 (zero14 8), .int .i64 (zero14 9), .int .i64 (zero14 10), .int .i64 (zero14 11), .int .i64 (zero14 12), .int .i64 (zero14 13)] 26)
  refine (parts_all s 10 10 _ rfl (by omega)).mono ?_
  rintro e w1 ⟨A, n, cap, ss, rfl, hn, hnl, hstr, hmap, b1, hcp⟩
  have z1 : w.heap.size < w1.heap.size := Nat.lt_of_lt_of_le (by simp) b1.size
  have K := Lib.hid ((b1.block w.heap.size (by simp)).trans hK)
  have B := Lib.hid (bel_trans hB b1)
  clear b1 hK hB
  obtain ⟨rb, hrb⟩ : ∃ rb, w.heap.size = rb := ⟨_, rfl⟩
  have HR := Lib.hid hrb
  rw [hrb] at K z1 ⊢
  clear hrb
  obtain ⟨m, rfl⟩ : ∃ m, n = m + 1 := by
    have h := List.length_pos_iff.2 (parts_ne 10 s.data.toList)
    rw [← hmap, List.length_map, hn] at h
    exact ⟨n - 1, by omega⟩
  obtain ⟨g, off, rfl, hcell⟩ := hstr (by omega)
  have hlast := hcell m (by omega)
  have HS := Lib.hid hstr
  clear hstr hcell
  have hm0 : (0 : Int) ≤ (m : Int) := by omega
  have hm1 : (m : Int) ≤ (cap : Int) := by omega
  have hm2 : m ≤ cap := by omega
  by_cases hx0 : (ss.getD m ByteArray.empty).size = 0
  · have HM := Lib.hid (lines_cut hmap hn hx0)
    have hxe : ss.getD m ByteArray.empty = ⟨#[]⟩ := by
      generalize ss.getD m ByteArray.empty = x at hx0
      obtain ⟨⟨q⟩⟩ := x
      cases q
      · rfl
      · simp [ByteArray.size] at hx0
    rw [hxe] at hlast
    have HS2 := Lib.hid (strs_take HS.out (by omega : m ≤ ss.length))
    have Hn : Hid ((ss.take m).length = m) := by
      have h : (ss.take m).length = m := by rw [List.length_take]; omega
      exact h
    generalize ss.take m = ls at HM HS2 Hn
    have hnb : m ≤ 1001 := by have := Hlen.out; omega
    clear hxe hx0 hmap hn hnl HS
    go_wp2_with fail
    refine (Nam.specNames_any _).mono ?_
    rintro e w2 ⟨rfl, r2, b2, z2⟩
    obtain ⟨nb, hnb⟩ : ∃ nb, w1.heap.size = nb := ⟨_, rfl⟩
    rw [hnb] at r2 z2 ⊢
    have R := Lib.hid r2
    have HS3 := Lib.hid (HS2.out.below b2)
    replace K := Lib.hid ((b2.block rb z1).trans K.out)
    replace B := Lib.hid (bel_trans B.out b2)
    clear r2 b2 hnb HS2 z1
    go_wp2_with fail
    refine (specDefault_any _).mono ?_
    rintro e w3 ⟨rfl, b3⟩
    replace R := Lib.hid (R.out.of_block (b3.block nb z2))
    replace HS3 := Lib.hid (HS3.out.below b3)
    replace K := Lib.hid ((b3.block rb (Cv.row_lt K.out)).trans K.out)
    replace B := Lib.hid (bel_trans B.out b3)
    replace z2 := Nat.lt_of_lt_of_le z2 b3.size
    clear b3
    go_wp2_with fail
    refine (Cv.values_any dflt _).mono ?_
    rintro e w4 ⟨vb, rfl, hv, hvb, b4⟩
    replace R := Lib.hid (R.out.of_block (b4.block nb z2))
    replace HS3 := Lib.hid (HS3.out.below b4)
    have hrv : rb < vb := Nat.lt_of_lt_of_le (Cv.row_lt K.out) hvb
    have hnv : nb < vb := Nat.lt_of_lt_of_le z2 hvb
    replace K := Lib.hid ((b4.block rb (Cv.row_lt K.out)).trans K.out)
    replace B := Lib.hid (bel_trans B.out b4)
    have V := Lib.hid hv
    clear b4 hv hvb z2
    have hmk := make14 w4
    go_wp2
    clear hmk
    have SB0 : (w4.alloc (.cells #[.bool false, .bool false, .bool false, .bool false, .bool false, .bool false, .bool false, .bool false, .bool false, .bool false, .bool false, .bool false, .bool false, .bool false] 4)).heap[w4.heap.size]? = some (.cells #[.bool (f14 0), .bool (f14 1), .bool (f14 2), .bool (f14 3), .bool (f14 4), .bool (f14 5), .bool (f14 6), .bool (f14 7), .bool (f14 8), .bool (f14 9), .bool (f14 10), .bool (f14 11), .bool (f14 12), .bool (f14 13)] 4 (0, 0)) := heap_alloc_new w4 _
    have ba := bel_alloc w4 (.cells #[.bool false, .bool false, .bool false, .bool false, .bool false, .bool false, .bool false, .bool false, .bool false, .bool false, .bool false, .bool false, .bool false, .bool false] 4)
    have hvs : vb < w4.heap.size := Cv.row_lt V.out
    replace R := Lib.hid (R.out.of_block (ba.block nb (by omega)))
    replace HS3 := Lib.hid (HS3.out.below ba)
    replace K := Lib.hid ((ba.block rb (by omega)).trans K.out)
    replace B := Lib.hid (bel_trans B.out ba)
    replace V := Lib.hid ((ba.block vb hvs).trans V.out)
    obtain ⟨sb, hsb⟩ : ∃ sb, w4.heap.size = sb := ⟨_, rfl⟩
    obtain ⟨w5, hw5⟩ : ∃ W, w4.alloc (.cells #[.bool false, .bool false, .bool false, .bool false, .bool false, .bool false, .bool false, .bool false, .bool false, .bool false, .bool false, .bool false, .bool false, .bool false] 4) = W := ⟨_, rfl⟩
    have z5 : nb < w5.heap.size := by rw [← hw5, World.size_alloc]; omega
    rw [hw5] at SB0 R HS3 K B V ⊢
    rw [hsb] at SB0 hvs ⊢
    have SB := Lib.hid SB0
    clear ba hw5 hsb SB0
    go_loopw [8] (fun i wr => ∃ (k : Nat) (c : Nat → Int) (d : Nat → Bool), k ≤ m ∧ i = .int .i64 k ∧ afterL dflt (linesT s.data.toList) k = some (c, d) ∧ wr.heap[vb]? = some (.cells #[.int .i64 (c 0), .int .i64 (c 1), .int .i64 (c 2), .int .i64 (c 3), .int .i64 (c 4), .int .i64 (c 5), .int .i64 (c 6), .int .i64 (c 7), .int .i64 (c 8), .int .i64 (c 9), .int .i64 (c 10), .int .i64 (c 11), .int .i64 (c 12), .int .i64 (c 13)] 3 (0, 0)) ∧ wr.heap[sb]? = some (.cells #[.bool (d 0), .bool (d 1), .bool (d 2), .bool (d 3), .bool (d 4), .bool (d 5), .bool (d 6), .bool (d 7), .bool (d 8), .bool (d 9), .bool (d 10), .bool (d 11), .bool (d 12), .bool (d 13)] 4 (0, 0)) ∧ Turn vb sb w5 wr) (fun i _ => m - (intOf i).toNat)
    case atStart => exact ⟨0, dflt, _, Nat.zero_le _, rfl, rfl, V.out, SB.out, Turn.refl _ _ _⟩
    case round =>
      obtain ⟨k, c, d, hk, rfl, haft, hV, hS, hTu⟩ := hrel
      have HA := Lib.hid haft
      have HVr := Lib.hid hV
      have HSr := Lib.hid hS
      have HTu := Lib.hid hTu
      have HBr := Lib.hid (hTu.below B.out (by have := HR.out; omega) (by have := HR.out; omega))
      have HKr := Lib.hid ((hTu.block rb (Cv.row_lt K.out) (by omega) (by omega)).trans K.out)
      clear haft hV hS hTu
      by_cases hlt : k < m
      · have hcell := rows_turn HS3.out HTu.out V.out SB.out (by rw [Hn.out]; exact hlt)
        have hls := line_size HM.out Hlen.out (by rw [Hn.out]; exact hlt)
        have HST := Lib.hid (after_step HA.out)
        rw [hls.2] at HST
        have hxs := hls.1
        clear hls
        generalize ls.getD k ByteArray.empty = x at hcell HST hxs
        have hk0 : (0 : Int) ≤ (k : Int) := by omega
        have hk1 : (k : Int) < (m : Int) := by omega
        by_cases hx0 : x.size = 0
        · have hxe : x = ⟨#[]⟩ := bytes_nil hx0
          subst hxe
          have HL : Hid (afterL dflt (linesT s.data.toList) (k + 1) = some (c, d)) := HST.out
          go_wp2
          go_roundw
          case rel => exact ⟨k + 1, c, d, by omega, by go_num, HL.out, HVr.out, HSr.out, HTu.out⟩
          case measure => simp [intOf]; omega
        · have hx1 : x.toList.isEmpty = false := bytes_some hx0
          have hxp : 0 < x.size := by omega
          have hxp1 : (0 : Int) < (x.size : Int) := by omega
          by_cases hh : x.data.toList.head? = some 35
          · have hp : ((x[0].toNat : Int) == 35) = true := head_yes hxp hh
            have HL : Hid (afterL dflt (linesT s.data.toList) (k + 1) = some (c, d)) := by
              have h := HST.out
              unfold lineL at h
              rw [if_pos (.inr hh)] at h
              exact h
            clear hh
            go_wp2
            go_roundw
            case rel => exact ⟨k + 1, c, d, by omega, by go_num, HL.out, HVr.out, HSr.out, HTu.out⟩
            case measure => simp [intOf]; omega
          · have hp : ((x[0].toNat : Int) == 35) = false := head_no hxp hh
            have HL : Hid (afterL dflt (linesT s.data.toList) (k + 1) = setL c d x.data.toList) := by
              have h := HST.out
              unfold lineL at h
              rw [if_neg (fun h => h.elim (list_some hx0) hh)] at h
              exact h
            clear hh HST
            go_wp2_with fail
            refine (parts_any x 61 61 _ rfl (by omega)).mono ?_
            rintro e w6 ⟨A2, n2, cap2, ss2, rfl, hn2, hn2b, hstr2, hmap2, b6⟩
            have HV6 := Lib.hid ((b6.block vb (Cv.row_lt HVr.out)).trans HVr.out)
            have HS6 := Lib.hid ((b6.block sb (Cv.row_lt HSr.out)).trans HSr.out)
            have HK6 := Lib.hid ((b6.block rb (Cv.row_lt HKr.out)).trans HKr.out)
            have HB6 := Lib.hid (bel_trans HBr.out b6)
            have HT6 := Lib.hid (HTu.out.trans (Turn.of_below b6))
            have HP := Lib.hid hstr2
            clear b6 hstr2 hcell hp hx1
            have hkw : IntKind.i64.wrap ((k : Int) + 1) = (k : Int) + 1 := IntWalk.i64_in _ (by omega)
            by_cases h2 : n2 = 2
            · subst h2
              obtain ⟨g2, off2, rfl, hc2⟩ := HP.out (by omega)
              have hc20 := hc2 0 (by omega)
              have hc21 := hc2 1 (by omega)
              obtain ⟨p0, p1, rfl⟩ : ∃ p0 p1, ss2 = [p0, p1] := two_of hn2
              change w6.cell? ⟨g2, off2 + 0, none⟩ = some (.string p0) at hc20
              change w6.cell? ⟨g2, off2 + 1, none⟩ = some (.string p1) at hc21
              rw [Nat.add_zero] at hc20
              have hps : parts 61 x.data.toList = [p0.data.toList, p1.data.toList] := hmap2.symm
              have HQ := Lib.hid (setL_two (c := c) (d := d) hps)
              have hp1s : p1.size ≤ 1048576 := part_size hps (by rw [Array.length_toList]; show x.size ≤ _; omega)
              have HC20 := Lib.hid hc20
              clear hmap2 hn2 hn2b HP hc2 hps hc20
              go_wp2_with fail
              refine (read_any p1 _ hp1s).mono ?_
              rintro e w7 ⟨rfl, b7⟩
              have HV7 := Lib.hid ((b7.block vb (Cv.row_lt HV6.out)).trans HV6.out)
              have HS7 := Lib.hid ((b7.block sb (Cv.row_lt HS6.out)).trans HS6.out)
              have HK7 := Lib.hid ((b7.block rb (Cv.row_lt HK6.out)).trans HK6.out)
              have HB7 := Lib.hid (bel_trans HB6.out b7)
              have HT7 := Lib.hid (HT6.out.trans (Turn.of_below b7))
              have hg2 : g2 < w6.heap.size := World.block_lt_of_cell? _ _ HC20.out
              have HC7 := Lib.hid ((b7.cell (p := ⟨g2, off2, none⟩) hg2).trans HC20.out)
              have R7 := Lib.hid (R.out.of_block (HT7.out.block nb z5 (by omega) (by omega)))
              have hnb7 : nb < w7.heap.size := Nat.lt_of_lt_of_le z5 HT7.out.size
              have hg7 : g2 < w7.heap.size := Nat.lt_of_lt_of_le hg2 b7.size
              clear b7 hc21 HV6 HS6 HK6 HB6 HT6 HC20 hg2 hp1s
              generalize (readT p1.data.toList).1 = nv at HQ ⊢
              generalize (readT p1.data.toList).2 = ok at HQ ⊢
              obtain ⟨wo, rfl⟩ : ∃ wo, wo = wr := ⟨_, rfl⟩
              go_wp2
              go_loopw [12, 13] (fun a j wx => ∃ q : Nat, q ≤ 14 ∧ j = .int .i64 q ∧ a = .int .i64 (atL p0.data.toList q) ∧ Below w7.heap.size w7 wx) (fun _ j _ => 14 - (intOf j).toNat)
              case atStart => exact ⟨0, Nat.zero_le _, rfl, rfl, Below.refl _ _⟩
              case round =>
                obtain ⟨q, hq, rfl, rfl, hrq⟩ := hrel
                have Hrq := Lib.hid hrq
                clear hrq
                by_cases hq14 : q < 14
                · have cn := ((R7.out.of_block (Hrq.out.block nb hnb7)) q (by show q < 14; exact hq14)).1
                  change wr.cell? ⟨nb, q, none⟩ = some (Value.string (nmB q)) at cn
                  have cp := (Hrq.out.cell (p := ⟨g2, off2, none⟩) hg7).trans HC7.out
                  have hq0 : (0 : Int) ≤ (q : Int) := by omega
                  have hq1 : (q : Int) < 14 := by omega
                  by_cases he : (nmB q).data.toList = p0.data.toList
                  · have HAt : Hid (atL p0.data.toList (q + 1) = (q : Int)) := atL_yes he
                    have hb : ((nmB q).toList == p0.toList) = true := by rw [ByteArray.toList_eq, ByteArray.toList_eq, he]; simp
                    generalize nmB q = nm at cn hb
                    clear he
                    go_wp2_with fail
                    go_region
                    all_goals
                      go_wp2
                      go_roundw
                      case rel => exact ⟨q + 1, by omega, by go_num, by rw [HAt.out], Hrq.out.drew⟩
                      case measure => simp [intOf]; omega
                  · have HAt : Hid (atL p0.data.toList (q + 1) = atL p0.data.toList q) := atL_no he
                    have hb : ((nmB q).toList == p0.toList) = false := by rw [ByteArray.toList_eq, ByteArray.toList_eq]; exact beq_eq_false_iff_ne.2 he
                    generalize nmB q = nm at cn hb
                    clear he
                    go_wp2_with fail
                    go_region
                    all_goals
                      go_wp2
                      go_roundw
                      case rel => exact ⟨q + 1, by omega, by go_num, by rw [HAt.out], Hrq.out.drew⟩
                      case measure => simp [intOf]; omega
                · obtain rfl : q = 14 := by omega
                  have HV8 := Lib.hid ((Hrq.out.block vb (Cv.row_lt HV7.out)).trans HV7.out)
                  have HS8 := Lib.hid ((Hrq.out.block sb (Cv.row_lt HS7.out)).trans HS7.out)
                  have HK8 := Lib.hid ((Hrq.out.block rb (Cv.row_lt HK7.out)).trans HK7.out)
                  have HB8 := Lib.hid (bel_trans HB7.out Hrq.out)
                  have HT8 := Lib.hid (HT7.out.trans (Turn.of_below Hrq.out))
                  clear HV7 HS7 HK7 HB7 HT7
                  cases ok with
                  | false =>
                    have HL2 : Hid (setL c d x.data.toList = none) := HQ.out.1 rfl
                    generalize atL p0.data.toList 14 = av
                    have HAns : Hid (Ans dflt s.data.toList zero14 ((k : Int) + 1)) := .inr ⟨Hlen.out, .inl ⟨k, by rw [← HM.out, List.length_map, Hn.out]; exact hlt, by rw [HA.out]; simp, by rw [HL.out]; exact HL2.out, rfl, rfl⟩⟩
                    have y0 : wr.cell? ⟨rb, 0, none⟩ = some (.int .i64 (zero14 0)) := cell_of_row _ _ 0 _ _ (0, 0) HK8.out
                    have y1 : wr.cell? ⟨rb, 1, none⟩ = some (.int .i64 (zero14 1)) := cell_of_row _ _ 1 _ _ (0, 0) HK8.out
                    have y2 : wr.cell? ⟨rb, 2, none⟩ = some (.int .i64 (zero14 2)) := cell_of_row _ _ 2 _ _ (0, 0) HK8.out
                    have y3 : wr.cell? ⟨rb, 3, none⟩ = some (.int .i64 (zero14 3)) := cell_of_row _ _ 3 _ _ (0, 0) HK8.out
                    have y4 : wr.cell? ⟨rb, 4, none⟩ = some (.int .i64 (zero14 4)) := cell_of_row _ _ 4 _ _ (0, 0) HK8.out
                    have y5 : wr.cell? ⟨rb, 5, none⟩ = some (.int .i64 (zero14 5)) := cell_of_row _ _ 5 _ _ (0, 0) HK8.out
                    have y6 : wr.cell? ⟨rb, 6, none⟩ = some (.int .i64 (zero14 6)) := cell_of_row _ _ 6 _ _ (0, 0) HK8.out
                    have y7 : wr.cell? ⟨rb, 7, none⟩ = some (.int .i64 (zero14 7)) := cell_of_row _ _ 7 _ _ (0, 0) HK8.out
                    have y8 : wr.cell? ⟨rb, 8, none⟩ = some (.int .i64 (zero14 8)) := cell_of_row _ _ 8 _ _ (0, 0) HK8.out
                    have y9 : wr.cell? ⟨rb, 9, none⟩ = some (.int .i64 (zero14 9)) := cell_of_row _ _ 9 _ _ (0, 0) HK8.out
                    have y10 : wr.cell? ⟨rb, 10, none⟩ = some (.int .i64 (zero14 10)) := cell_of_row _ _ 10 _ _ (0, 0) HK8.out
                    have y11 : wr.cell? ⟨rb, 11, none⟩ = some (.int .i64 (zero14 11)) := cell_of_row _ _ 11 _ _ (0, 0) HK8.out
                    have y12 : wr.cell? ⟨rb, 12, none⟩ = some (.int .i64 (zero14 12)) := cell_of_row _ _ 12 _ _ (0, 0) HK8.out
                    have y13 : wr.cell? ⟨rb, 13, none⟩ = some (.int .i64 (zero14 13)) := cell_of_row _ _ 13 _ _ (0, 0) HK8.out
                    have yf : ∀ j, wr.frozen? ⟨rb, j, none⟩ = false := fun j => frozen_of_row _ _ j _ _ HK8.out
                    go_wp2
                    refine bodyPost_ret (v := .tuple #[.agg #[.int .i64 (zero14 0), .int .i64 (zero14 1), .int .i64 (zero14 2), .int .i64 (zero14 3), .int .i64 (zero14 4), .int .i64 (zero14 5), .int .i64 (zero14 6), .int .i64 (zero14 7), .int .i64 (zero14 8), .int .i64 (zero14 9), .int .i64 (zero14 10), .int .i64 (zero14 11), .int .i64 (zero14 12), .int .i64 (zero14 13)], .int .i64 ((k : Int) + 1)]) (by simp [results, Tryd.results8, go_sem, zero14, y0, y1, y2, y3, y4, y5, y6, y7, y8, y9, y10, y11, y12, y13]) rfl ⟨zero14, _, rfl, HAns.out, ?_⟩
                    exact st14_below HB8.out (by have := HR.out; omega) zero14 rfl
                  | true =>
                    cases hfa : fieldAt p0.data.toList with
                    | none =>
                      have HL2 : Hid (setL c d x.data.toList = none) := HQ.out.2.1 rfl hfa
                      rw [atL_none hfa]
                      clear hfa
                      have HAns : Hid (Ans dflt s.data.toList zero14 ((k : Int) + 1)) := .inr ⟨Hlen.out, .inl ⟨k, by rw [← HM.out, List.length_map, Hn.out]; exact hlt, by rw [HA.out]; simp, by rw [HL.out]; exact HL2.out, rfl, rfl⟩⟩
                      have y0 : wr.cell? ⟨rb, 0, none⟩ = some (.int .i64 (zero14 0)) := cell_of_row _ _ 0 _ _ (0, 0) HK8.out
                      have y1 : wr.cell? ⟨rb, 1, none⟩ = some (.int .i64 (zero14 1)) := cell_of_row _ _ 1 _ _ (0, 0) HK8.out
                      have y2 : wr.cell? ⟨rb, 2, none⟩ = some (.int .i64 (zero14 2)) := cell_of_row _ _ 2 _ _ (0, 0) HK8.out
                      have y3 : wr.cell? ⟨rb, 3, none⟩ = some (.int .i64 (zero14 3)) := cell_of_row _ _ 3 _ _ (0, 0) HK8.out
                      have y4 : wr.cell? ⟨rb, 4, none⟩ = some (.int .i64 (zero14 4)) := cell_of_row _ _ 4 _ _ (0, 0) HK8.out
                      have y5 : wr.cell? ⟨rb, 5, none⟩ = some (.int .i64 (zero14 5)) := cell_of_row _ _ 5 _ _ (0, 0) HK8.out
                      have y6 : wr.cell? ⟨rb, 6, none⟩ = some (.int .i64 (zero14 6)) := cell_of_row _ _ 6 _ _ (0, 0) HK8.out
                      have y7 : wr.cell? ⟨rb, 7, none⟩ = some (.int .i64 (zero14 7)) := cell_of_row _ _ 7 _ _ (0, 0) HK8.out
                      have y8 : wr.cell? ⟨rb, 8, none⟩ = some (.int .i64 (zero14 8)) := cell_of_row _ _ 8 _ _ (0, 0) HK8.out
                      have y9 : wr.cell? ⟨rb, 9, none⟩ = some (.int .i64 (zero14 9)) := cell_of_row _ _ 9 _ _ (0, 0) HK8.out
                      have y10 : wr.cell? ⟨rb, 10, none⟩ = some (.int .i64 (zero14 10)) := cell_of_row _ _ 10 _ _ (0, 0) HK8.out
                      have y11 : wr.cell? ⟨rb, 11, none⟩ = some (.int .i64 (zero14 11)) := cell_of_row _ _ 11 _ _ (0, 0) HK8.out
                      have y12 : wr.cell? ⟨rb, 12, none⟩ = some (.int .i64 (zero14 12)) := cell_of_row _ _ 12 _ _ (0, 0) HK8.out
                      have y13 : wr.cell? ⟨rb, 13, none⟩ = some (.int .i64 (zero14 13)) := cell_of_row _ _ 13 _ _ (0, 0) HK8.out
                      have yf : ∀ j, wr.frozen? ⟨rb, j, none⟩ = false := fun j => frozen_of_row _ _ j _ _ HK8.out
                      go_wp2
                      refine bodyPost_ret (v := .tuple #[.agg #[.int .i64 (zero14 0), .int .i64 (zero14 1), .int .i64 (zero14 2), .int .i64 (zero14 3), .int .i64 (zero14 4), .int .i64 (zero14 5), .int .i64 (zero14 6), .int .i64 (zero14 7), .int .i64 (zero14 8), .int .i64 (zero14 9), .int .i64 (zero14 10), .int .i64 (zero14 11), .int .i64 (zero14 12), .int .i64 (zero14 13)], .int .i64 ((k : Int) + 1)]) (by simp [results, Tryd.results8, go_sem, zero14, y0, y1, y2, y3, y4, y5, y6, y7, y8, y9, y10, y11, y12, y13]) rfl ⟨zero14, _, rfl, HAns.out, ?_⟩
                      exact st14_below HB8.out (by have := HR.out; omega) zero14 rfl
                    | some i =>
                      have hi := (fieldAt_of hfa).1
                      rw [atL_some hfa]
                      have hi0 : (0 : Int) ≤ (i : Int) := by omega
                      have hi1 : (i : Int) < 14 := by omega
                      have hi2 : ¬ (i : Int) < 0 := by omega
                      have hcs := rowB_at HS8.out i hi
                      cases hdi : d i with
                      | true =>
                        have HL2 : Hid (setL c d x.data.toList = none) := (HQ.out.2.2 rfl i hfa).1 hdi
                        rw [hdi] at hcs
                        clear hfa hdi
                        have HAns : Hid (Ans dflt s.data.toList zero14 ((k : Int) + 1)) := .inr ⟨Hlen.out, .inl ⟨k, by rw [← HM.out, List.length_map, Hn.out]; exact hlt, by rw [HA.out]; simp, by rw [HL.out]; exact HL2.out, rfl, rfl⟩⟩
                        have y0 : wr.cell? ⟨rb, 0, none⟩ = some (.int .i64 (zero14 0)) := cell_of_row _ _ 0 _ _ (0, 0) HK8.out
                        have y1 : wr.cell? ⟨rb, 1, none⟩ = some (.int .i64 (zero14 1)) := cell_of_row _ _ 1 _ _ (0, 0) HK8.out
                        have y2 : wr.cell? ⟨rb, 2, none⟩ = some (.int .i64 (zero14 2)) := cell_of_row _ _ 2 _ _ (0, 0) HK8.out
                        have y3 : wr.cell? ⟨rb, 3, none⟩ = some (.int .i64 (zero14 3)) := cell_of_row _ _ 3 _ _ (0, 0) HK8.out
                        have y4 : wr.cell? ⟨rb, 4, none⟩ = some (.int .i64 (zero14 4)) := cell_of_row _ _ 4 _ _ (0, 0) HK8.out
                        have y5 : wr.cell? ⟨rb, 5, none⟩ = some (.int .i64 (zero14 5)) := cell_of_row _ _ 5 _ _ (0, 0) HK8.out
                        have y6 : wr.cell? ⟨rb, 6, none⟩ = some (.int .i64 (zero14 6)) := cell_of_row _ _ 6 _ _ (0, 0) HK8.out
                        have y7 : wr.cell? ⟨rb, 7, none⟩ = some (.int .i64 (zero14 7)) := cell_of_row _ _ 7 _ _ (0, 0) HK8.out
                        have y8 : wr.cell? ⟨rb, 8, none⟩ = some (.int .i64 (zero14 8)) := cell_of_row _ _ 8 _ _ (0, 0) HK8.out
                        have y9 : wr.cell? ⟨rb, 9, none⟩ = some (.int .i64 (zero14 9)) := cell_of_row _ _ 9 _ _ (0, 0) HK8.out
                        have y10 : wr.cell? ⟨rb, 10, none⟩ = some (.int .i64 (zero14 10)) := cell_of_row _ _ 10 _ _ (0, 0) HK8.out
                        have y11 : wr.cell? ⟨rb, 11, none⟩ = some (.int .i64 (zero14 11)) := cell_of_row _ _ 11 _ _ (0, 0) HK8.out
                        have y12 : wr.cell? ⟨rb, 12, none⟩ = some (.int .i64 (zero14 12)) := cell_of_row _ _ 12 _ _ (0, 0) HK8.out
                        have y13 : wr.cell? ⟨rb, 13, none⟩ = some (.int .i64 (zero14 13)) := cell_of_row _ _ 13 _ _ (0, 0) HK8.out
                        have yf : ∀ j, wr.frozen? ⟨rb, j, none⟩ = false := fun j => frozen_of_row _ _ j _ _ HK8.out
                        go_wp2
                        refine bodyPost_ret (v := .tuple #[.agg #[.int .i64 (zero14 0), .int .i64 (zero14 1), .int .i64 (zero14 2), .int .i64 (zero14 3), .int .i64 (zero14 4), .int .i64 (zero14 5), .int .i64 (zero14 6), .int .i64 (zero14 7), .int .i64 (zero14 8), .int .i64 (zero14 9), .int .i64 (zero14 10), .int .i64 (zero14 11), .int .i64 (zero14 12), .int .i64 (zero14 13)], .int .i64 ((k : Int) + 1)]) (by simp [results, Tryd.results8, go_sem, zero14, y0, y1, y2, y3, y4, y5, y6, y7, y8, y9, y10, y11, y12, y13]) rfl ⟨zero14, _, rfl, HAns.out, ?_⟩
                        exact st14_below HB8.out (by have := HR.out; omega) zero14 rfl
                      | false =>
                        have HL2 : Hid (setL c d x.data.toList = some (upd c i nv, updB d i)) := (HQ.out.2.2 rfl i hfa).2 hdi
                        rw [hdi] at hcs
                        clear hfa hdi
                        have hfs : wr.frozen? ⟨sb, i, none⟩ = false := frozen_of_row _ _ i _ _ HS8.out
                        have hcv := Cv.row_at HV8.out i hi
                        have hfv : wr.frozen? ⟨vb, i, none⟩ = false := frozen_of_row _ _ i _ _ HV8.out
                        have hne : vb ≠ sb := by omega
                        have hne2 : sb ≠ vb := by omega
                        have hne3 : ¬ vb = sb := by omega
                        have hne4 : ¬ sb = vb := by omega
                        have HNE := Lib.hid hne
                        have HI := Lib.hid hi
                        go_wp2
                        obtain ⟨u9, hu9⟩ : ∃ u, u = upd c i nv := ⟨_, rfl⟩
                        obtain ⟨d9, hd9⟩ : ∃ u, u = updB d i := ⟨_, rfl⟩
                        have HL9 : Hid (afterL dflt (linesT s.data.toList) (k + 1) = some (u9, d9)) := by rw [HL.out, HL2.out, hu9, hd9]; exact rfl
                        obtain ⟨wz, hwz⟩ : ∃ W, (wr.setCell ⟨sb, i, none⟩ (.bool true)).setCell ⟨vb, i, none⟩ (.int .i64 nv) = W := ⟨_, rfl⟩
                        have HV9 : Hid (wz.heap[vb]? = some (.cells #[.int .i64 (u9 0), .int .i64 (u9 1), .int .i64 (u9 2), .int .i64 (u9 3), .int .i64 (u9 4), .int .i64 (u9 5), .int .i64 (u9 6), .int .i64 (u9 7), .int .i64 (u9 8), .int .i64 (u9 9), .int .i64 (u9 10), .int .i64 (u9 11), .int .i64 (u9 12), .int .i64 (u9 13)] 3 (0, 0))) := by rw [← hwz]; exact row_upd ((heap_setCell_other _ _ _ _ HNE.out).trans HV8.out) i HI.out nv hu9
                        have HS9 : Hid (wz.heap[sb]? = some (.cells #[.bool (d9 0), .bool (d9 1), .bool (d9 2), .bool (d9 3), .bool (d9 4), .bool (d9 5), .bool (d9 6), .bool (d9 7), .bool (d9 8), .bool (d9 9), .bool (d9 10), .bool (d9 11), .bool (d9 12), .bool (d9 13)] 4 (0, 0))) := by rw [← hwz]; exact (heap_setCell_other _ _ _ _ (Ne.symm HNE.out)).trans (rowB_upd HS8.out i HI.out hd9)
                        have HT9 : Hid (Turn vb sb w5 wz) := by
                          rw [← hwz]
                          exact HT8.out.trans ⟨rfl, rfl, rfl, by simp [World.setCell], fun j _ h1 h2 => (heap_setCell_other _ _ _ _ h1).trans (heap_setCell_other _ _ _ _ h2)⟩
                        rw [hwz]
                        clear hwz hu9 hd9
                        go_roundw
                        case rel => exact ⟨k + 1, u9, d9, by omega, by go_num, HL9.out, HV9.out, HS9.out, HT9.out⟩
                        case measure => simp [intOf]; omega
            · have HL2 : Hid (setL c d x.data.toList = none) := setL_other (by rw [← hmap2, List.length_map, hn2]; exact h2)
              have h2i : ((n2 : Int) == 2) = false := by simp; omega
              have h2j : ¬ (n2 : Int) = 2 := by omega
              clear hmap2 hn2 hn2b HP
              have HAns : Hid (Ans dflt s.data.toList zero14 ((k : Int) + 1)) := .inr ⟨Hlen.out, .inl ⟨k, by rw [← HM.out, List.length_map, Hn.out]; exact hlt, by rw [HA.out]; simp, by rw [HL.out]; exact HL2.out, rfl, rfl⟩⟩
              have y0 : w6.cell? ⟨rb, 0, none⟩ = some (.int .i64 (zero14 0)) := cell_of_row _ _ 0 _ _ (0, 0) HK6.out
              have y1 : w6.cell? ⟨rb, 1, none⟩ = some (.int .i64 (zero14 1)) := cell_of_row _ _ 1 _ _ (0, 0) HK6.out
              have y2 : w6.cell? ⟨rb, 2, none⟩ = some (.int .i64 (zero14 2)) := cell_of_row _ _ 2 _ _ (0, 0) HK6.out
              have y3 : w6.cell? ⟨rb, 3, none⟩ = some (.int .i64 (zero14 3)) := cell_of_row _ _ 3 _ _ (0, 0) HK6.out
              have y4 : w6.cell? ⟨rb, 4, none⟩ = some (.int .i64 (zero14 4)) := cell_of_row _ _ 4 _ _ (0, 0) HK6.out
              have y5 : w6.cell? ⟨rb, 5, none⟩ = some (.int .i64 (zero14 5)) := cell_of_row _ _ 5 _ _ (0, 0) HK6.out
              have y6 : w6.cell? ⟨rb, 6, none⟩ = some (.int .i64 (zero14 6)) := cell_of_row _ _ 6 _ _ (0, 0) HK6.out
              have y7 : w6.cell? ⟨rb, 7, none⟩ = some (.int .i64 (zero14 7)) := cell_of_row _ _ 7 _ _ (0, 0) HK6.out
              have y8 : w6.cell? ⟨rb, 8, none⟩ = some (.int .i64 (zero14 8)) := cell_of_row _ _ 8 _ _ (0, 0) HK6.out
              have y9 : w6.cell? ⟨rb, 9, none⟩ = some (.int .i64 (zero14 9)) := cell_of_row _ _ 9 _ _ (0, 0) HK6.out
              have y10 : w6.cell? ⟨rb, 10, none⟩ = some (.int .i64 (zero14 10)) := cell_of_row _ _ 10 _ _ (0, 0) HK6.out
              have y11 : w6.cell? ⟨rb, 11, none⟩ = some (.int .i64 (zero14 11)) := cell_of_row _ _ 11 _ _ (0, 0) HK6.out
              have y12 : w6.cell? ⟨rb, 12, none⟩ = some (.int .i64 (zero14 12)) := cell_of_row _ _ 12 _ _ (0, 0) HK6.out
              have y13 : w6.cell? ⟨rb, 13, none⟩ = some (.int .i64 (zero14 13)) := cell_of_row _ _ 13 _ _ (0, 0) HK6.out
              have yf : ∀ j, w6.frozen? ⟨rb, j, none⟩ = false := fun j => frozen_of_row _ _ j _ _ HK6.out
              go_wp2
              refine bodyPost_ret (v := .tuple #[.agg #[.int .i64 (zero14 0), .int .i64 (zero14 1), .int .i64 (zero14 2), .int .i64 (zero14 3), .int .i64 (zero14 4), .int .i64 (zero14 5), .int .i64 (zero14 6), .int .i64 (zero14 7), .int .i64 (zero14 8), .int .i64 (zero14 9), .int .i64 (zero14 10), .int .i64 (zero14 11), .int .i64 (zero14 12), .int .i64 (zero14 13)], .int .i64 ((k : Int) + 1)]) (by simp [results, Tryd.results8, go_sem, zero14, y0, y1, y2, y3, y4, y5, y6, y7, y8, y9, y10, y11, y12, y13]) rfl ⟨zero14, _, rfl, HAns.out, ?_⟩
              exact st14_below HB6.out (by have := HR.out; omega) zero14 rfl
      · have hkN : k = m := by omega
        have hki : ¬ (k : Int) < (m : Int) := by omega
        have HF : Hid (afterL dflt (linesT s.data.toList) (linesT s.data.toList).length = some (c, d)) := by
          have e : (linesT s.data.toList).length = m := by rw [← HM.out, List.length_map, Hn.out]
          rw [e, ← hkN]
          exact HA.out
        clear hkN
        go_wp2_with fail
        refine (Cv.of_any c vb _ HVr.out).mono ?_
        rintro e w6 ⟨rfl, b6⟩
        have K6 := Lib.hid ((b6.block rb (Cv.row_lt HKr.out)).trans HKr.out)
        have B6 := Lib.hid (bel_trans HBr.out b6)
        clear b6
        go_wp2_with fail
        have C7 := Lib.hid (heap_alloc_new w6 (.cells #[.int .i64 (c 0), .int .i64 (c 1), .int .i64 (c 2), .int .i64 (c 3), .int .i64 (c 4), .int .i64 (c 5), .int .i64 (c 6), .int .i64 (c 7), .int .i64 (c 8), .int .i64 (c 9), .int .i64 (c 10), .int .i64 (c 11), .int .i64 (c 12), .int .i64 (c 13)] 26))
        have b7 := bel_alloc w6 (.cells #[.int .i64 (c 0), .int .i64 (c 1), .int .i64 (c 2), .int .i64 (c 3), .int .i64 (c 4), .int .i64 (c 5), .int .i64 (c 6), .int .i64 (c 7), .int .i64 (c 8), .int .i64 (c 9), .int .i64 (c 10), .int .i64 (c 11), .int .i64 (c 12), .int .i64 (c 13)] 26)
        have K7 := Lib.hid ((b7.block rb (Cv.row_lt K6.out)).trans K6.out)
        have B7 := Lib.hid (bel_trans B6.out b7)
        have hrc : rb < w6.heap.size := Cv.row_lt K6.out
        obtain ⟨cb, hcb⟩ : ∃ cb, w6.heap.size = cb := ⟨_, rfl⟩
        obtain ⟨w7, hw7⟩ : ∃ W, w6.alloc (.cells #[.int .i64 (c 0), .int .i64 (c 1), .int .i64 (c 2), .int .i64 (c 3), .int .i64 (c 4), .int .i64 (c 5), .int .i64 (c 6), .int .i64 (c 7), .int .i64 (c 8), .int .i64 (c 9), .int .i64 (c 10), .int .i64 (c 11), .int .i64 (c 12), .int .i64 (c 13)] 26) = W := ⟨_, rfl⟩
        rw [hw7] at C7 K7 B7 ⊢
        rw [hcb] at C7 hrc ⊢
        clear b7 hw7 hcb K6 B6
        refine (specConfigOk_any c _).mono ?_
        rintro e w8 ⟨rfl, b8⟩
        have K8 := Lib.hid ((b8.block rb (Cv.row_lt K7.out)).trans K7.out)
        have C8 := Lib.hid ((b8.block cb (Cv.row_lt C7.out)).trans C7.out)
        have B8 := Lib.hid (bel_trans B7.out b8)
        clear b8 K7 C7 B7
        have y0 : w8.cell? ⟨rb, 0, none⟩ = some (.int .i64 (zero14 0)) := cell_of_row _ _ 0 _ _ (0, 0) K8.out
        have y1 : w8.cell? ⟨rb, 1, none⟩ = some (.int .i64 (zero14 1)) := cell_of_row _ _ 1 _ _ (0, 0) K8.out
        have y2 : w8.cell? ⟨rb, 2, none⟩ = some (.int .i64 (zero14 2)) := cell_of_row _ _ 2 _ _ (0, 0) K8.out
        have y3 : w8.cell? ⟨rb, 3, none⟩ = some (.int .i64 (zero14 3)) := cell_of_row _ _ 3 _ _ (0, 0) K8.out
        have y4 : w8.cell? ⟨rb, 4, none⟩ = some (.int .i64 (zero14 4)) := cell_of_row _ _ 4 _ _ (0, 0) K8.out
        have y5 : w8.cell? ⟨rb, 5, none⟩ = some (.int .i64 (zero14 5)) := cell_of_row _ _ 5 _ _ (0, 0) K8.out
        have y6 : w8.cell? ⟨rb, 6, none⟩ = some (.int .i64 (zero14 6)) := cell_of_row _ _ 6 _ _ (0, 0) K8.out
        have y7 : w8.cell? ⟨rb, 7, none⟩ = some (.int .i64 (zero14 7)) := cell_of_row _ _ 7 _ _ (0, 0) K8.out
        have y8 : w8.cell? ⟨rb, 8, none⟩ = some (.int .i64 (zero14 8)) := cell_of_row _ _ 8 _ _ (0, 0) K8.out
        have y9 : w8.cell? ⟨rb, 9, none⟩ = some (.int .i64 (zero14 9)) := cell_of_row _ _ 9 _ _ (0, 0) K8.out
        have y10 : w8.cell? ⟨rb, 10, none⟩ = some (.int .i64 (zero14 10)) := cell_of_row _ _ 10 _ _ (0, 0) K8.out
        have y11 : w8.cell? ⟨rb, 11, none⟩ = some (.int .i64 (zero14 11)) := cell_of_row _ _ 11 _ _ (0, 0) K8.out
        have y12 : w8.cell? ⟨rb, 12, none⟩ = some (.int .i64 (zero14 12)) := cell_of_row _ _ 12 _ _ (0, 0) K8.out
        have y13 : w8.cell? ⟨rb, 13, none⟩ = some (.int .i64 (zero14 13)) := cell_of_row _ _ 13 _ _ (0, 0) K8.out
        have yf : ∀ j, w8.frozen? ⟨rb, j, none⟩ = false := fun j => frozen_of_row _ _ j _ _ K8.out
        cases hok : okC c with
        | false =>
          have HAns : Hid (Ans dflt s.data.toList zero14 (-1)) := .inr ⟨Hlen.out, .inr ⟨c, d, HF.out, .inr ⟨hok, rfl, rfl⟩⟩⟩
          clear hok
          go_wp2
          refine bodyPost_ret (v := .tuple #[.agg #[.int .i64 (zero14 0), .int .i64 (zero14 1), .int .i64 (zero14 2), .int .i64 (zero14 3), .int .i64 (zero14 4), .int .i64 (zero14 5), .int .i64 (zero14 6), .int .i64 (zero14 7), .int .i64 (zero14 8), .int .i64 (zero14 9), .int .i64 (zero14 10), .int .i64 (zero14 11), .int .i64 (zero14 12), .int .i64 (zero14 13)], .int .i64 (-1)]) (by simp [results, Tryd.results8, go_sem, zero14, y0, y1, y2, y3, y4, y5, y6, y7, y8, y9, y10, y11, y12, y13]) rfl ⟨zero14, -1, rfl, HAns.out, ?_⟩
          exact st14_below B8.out (by have := HR.out; omega) zero14 rfl
        | true =>
          have HAns : Hid (Ans dflt s.data.toList c 0) := .inr ⟨Hlen.out, .inr ⟨c, d, HF.out, .inl ⟨hok, rfl, rfl⟩⟩⟩
          clear hok
          have x0 : w8.cell? ⟨cb, 0, none⟩ = some (.int .i64 (c 0)) := cell_of_row _ _ 0 _ _ (0, 0) C8.out
          have x1 : w8.cell? ⟨cb, 1, none⟩ = some (.int .i64 (c 1)) := cell_of_row _ _ 1 _ _ (0, 0) C8.out
          have x2 : w8.cell? ⟨cb, 2, none⟩ = some (.int .i64 (c 2)) := cell_of_row _ _ 2 _ _ (0, 0) C8.out
          have x3 : w8.cell? ⟨cb, 3, none⟩ = some (.int .i64 (c 3)) := cell_of_row _ _ 3 _ _ (0, 0) C8.out
          have x4 : w8.cell? ⟨cb, 4, none⟩ = some (.int .i64 (c 4)) := cell_of_row _ _ 4 _ _ (0, 0) C8.out
          have x5 : w8.cell? ⟨cb, 5, none⟩ = some (.int .i64 (c 5)) := cell_of_row _ _ 5 _ _ (0, 0) C8.out
          have x6 : w8.cell? ⟨cb, 6, none⟩ = some (.int .i64 (c 6)) := cell_of_row _ _ 6 _ _ (0, 0) C8.out
          have x7 : w8.cell? ⟨cb, 7, none⟩ = some (.int .i64 (c 7)) := cell_of_row _ _ 7 _ _ (0, 0) C8.out
          have x8 : w8.cell? ⟨cb, 8, none⟩ = some (.int .i64 (c 8)) := cell_of_row _ _ 8 _ _ (0, 0) C8.out
          have x9 : w8.cell? ⟨cb, 9, none⟩ = some (.int .i64 (c 9)) := cell_of_row _ _ 9 _ _ (0, 0) C8.out
          have x10 : w8.cell? ⟨cb, 10, none⟩ = some (.int .i64 (c 10)) := cell_of_row _ _ 10 _ _ (0, 0) C8.out
          have x11 : w8.cell? ⟨cb, 11, none⟩ = some (.int .i64 (c 11)) := cell_of_row _ _ 11 _ _ (0, 0) C8.out
          have x12 : w8.cell? ⟨cb, 12, none⟩ = some (.int .i64 (c 12)) := cell_of_row _ _ 12 _ _ (0, 0) C8.out
          have x13 : w8.cell? ⟨cb, 13, none⟩ = some (.int .i64 (c 13)) := cell_of_row _ _ 13 _ _ (0, 0) C8.out
          go_wp2
          refine bodyPost_ret (v := .tuple #[.agg #[.int .i64 (c 0), .int .i64 (c 1), .int .i64 (c 2), .int .i64 (c 3), .int .i64 (c 4), .int .i64 (c 5), .int .i64 (c 6), .int .i64 (c 7), .int .i64 (c 8), .int .i64 (c 9), .int .i64 (c 10), .int .i64 (c 11), .int .i64 (c 12), .int .i64 (c 13)], .int .i64 0]) (by simp [results, Tryd.results8, go_sem, y0, y1, y2, y3, y4, y5, y6, y7, y8, y9, y10, y11, y12, y13]) rfl ⟨c, 0, rfl, HAns.out, ?_⟩
          exact st14_below B8.out (by have := HR.out; omega) c rfl
  · exact absurd (last_cut hmap hn HE.out) hx0
end Go.Proofs.YtahfmgjchjjlmaaDoor.Fm
