/- The text of a connection: the program's ConnText and the law. -/
import Derived.Test.YtbmfleakldhabaaDoorKnT
import Derived.Test.YtbmfleakldhabaaDoorTab1
import Derived.Test.YtbmfleakldhabaaDoorKn2
namespace Go.Proofs.YtbmfleakldhabaaDoor.Kn
open Go.RowKit Go.Deep Base Tick

/-- The variable of the names holds them. -/
def Nms (w : World) : Prop := ∀ i, i < 5 → w.cell? ⟨0, i, none⟩ = some (.string (nmB i))
theorem Nms.below {w w' : World} (h : Nms w) (hb : Below w.heap.size w w') : Nms w' := fun i hi => (hb.cell (World.block_lt_of_cell? _ _ (h i hi))).trans (h i hi)

theorem join_tx (i0 nm i2 i3 i4 : ByteArray) : (⟨(Lib.join ([i0, nm, i2, i3, i4].map (·.data.toList)) [32]).toArray⟩ : ByteArray) = i0 ++ spB ++ nm ++ spB ++ i2 ++ spB ++ i3 ++ spB ++ i4 := by
  apply ByteArray.ext
  simp [Lib.join, spB, ByteArray.data_append]

theorem join_len (i0 nm i2 i3 i4 : ByteArray) (h0 : i0.size ≤ 21) (h1 : nm.size ≤ 7) (h2 : i2.size ≤ 21) (h3 : i3.size ≤ 21) (h4 : i4.size ≤ 21) : (Lib.join ([i0, nm, i2, i3, i4].map (·.data.toList)) [32]).length ≤ 140737488355328 := by
  simp [Lib.join]
  have e0 : i0.data.size = i0.size := rfl
  have e1 : nm.data.size = nm.size := rfl
  have e2 : i2.data.size = i2.size := rfl
  have e3 : i3.data.size = i3.size := rfl
  have e4 : i4.data.size = i4.size := rfl
  omega

set_option maxRecDepth 100000 in
set_option maxHeartbeats 4000000 in
theorem implText_any (k : Nat → Int) (t : Bool) (w : World) (hn : Nms w) (ht : Num.Tab w) :
    Calls Tryd.prog 28 #[.agg #[.int .i64 (k 0), .int .i64 (k 1), .int .i64 (k 2), .int .i64 (k 3), .int .i64 (k 4), .bool t]] w fun e w' => e = .returned (.string (textC k t)) ∧ Below w.heap.size w w' := by
  have HO : Hid (textC k t = if okN k t = true then txC k else ⟨#[]⟩) := rfl
  have HK := Lib.hid (KC.new k t w 28)
  have HNs := Lib.hid hn
  have HTa := Lib.hid ht
  have B := Lib.hid (bel_alloc w (.cells #[.int .i64 (k 0), .int .i64 (k 1), .int .i64 (k 2), .int .i64 (k 3), .int .i64 (k 4), .bool t] 28))
  clear hn ht
  go_enter Tryd.func28, Tryd.ntmps28
  go_wp2_with fail
  refine (implConnOk_any k t _).mono ?_
  rintro e w1 ⟨rfl, b1⟩
  replace HK := Lib.hid (HK.out.below b1)
  replace B := Lib.hid (bel_trans B.out b1)
  clear b1
  cases h0 : okN k t
  · have Hr : Hid (textC k t = ⟨#[]⟩) := by show _ = _; rw [HO.out, h0]; rfl
    clear h0
    go_wp2
    go_ret
    exact ⟨by rw [Hr.out]; rfl, B.out⟩
  obtain ⟨b0, ⟨i, hi, hi5⟩, b2, b3, b4⟩ := ok_small h0
  have Hr : Hid (textC k t = itB (k 0) ++ spB ++ nmB i ++ spB ++ itB (k 2) ++ spB ++ itB (k 3) ++ spB ++ itB (k 4)) := by show _ = _; rw [HO.out, h0, if_pos rfl]; unfold txC; rw [hi]; rfl
  have hz : w.heap.size < w1.heap.size := HK.out.lt
  have hnl := nm_len hi5
  have hl0 := it_len b0
  have hl2 := it_len b2
  have hl3 := it_len b3
  have hl4 := it_len b4
  have HN0 : Hid (∀ W, Num.Tab W → Calls Tryd.prog 49 #[.int .i64 (k 0)] W fun e w' => e = .returned (.string (itB (k 0))) ∧ Below W.heap.size W w') := fun W hW => Num.itoa_any (k 0) W (by omega) (by omega) hW
  have HN2 : Hid (∀ W, Num.Tab W → Calls Tryd.prog 49 #[.int .i64 (k 2)] W fun e w' => e = .returned (.string (itB (k 2))) ∧ Below W.heap.size W w') := fun W hW => Num.itoa_any (k 2) W (by omega) (by omega) hW
  have HN3 : Hid (∀ W, Num.Tab W → Calls Tryd.prog 49 #[.int .i64 (k 3)] W fun e w' => e = .returned (.string (itB (k 3))) ∧ Below W.heap.size W w') := fun W hW => Num.itoa_any (k 3) W (by omega) (by omega) hW
  have HN4 : Hid (∀ W, Num.Tab W → Calls Tryd.prog 49 #[.int .i64 (k 4)] W fun e w' => e = .returned (.string (itB (k 4))) ∧ Below W.heap.size W w') := fun W hW => Num.itoa_any (k 4) W (by omega) (by omega) hW
  have HTX : Hid (TX w.heap.size 0 i (k 0) (k 2) (k 3) (k 4) (nmB i) w1) := by
    obtain ⟨c0, c1, c2, c3, c4, _⟩ := HK.out
    exact ⟨c0, by rw [c1, hi], c2, c3, c4, (HNs.out.below B.out) i hi5⟩
  have HH := Lib.hid B.out
  have hi0 : (0 : Int) ≤ (i : Int) := by omega
  have hi6 : (i : Int) < 5 := by omega
  have HJ : Hid (∀ bk W, bk < W.heap.size → (∀ (j : Nat) x, [itB (k 0), nmB i, itB (k 2), itB (k 3), itB (k 4)][j]? = some x → W.cell? ⟨bk, 0 + j, none⟩ = some (.string x)) → Calls Tryd.prog 50 #[.slice (some ⟨bk, 0, none⟩) 5 5, .string ⟨#[32]⟩] W fun e w' => e = .returned (.string (textC k t)) ∧ Below W.heap.size W w') := by
    intro bk W hbk hc
    have q := Tryd.strings_Join bk 0 5 [itB (k 0), nmB i, itB (k 2), itB (k 3), itB (k 4)] ⟨#[32]⟩ W hc hbk (by simp) (by simp) (join_len _ _ _ _ _ hl0 hnl hl2 hl3 hl4)
    refine q.mono ?_
    rintro e w' ⟨rfl, hb⟩
    refine ⟨?_, hb⟩
    rw [Hr.out, ← join_tx]
  clear h0 hi b0 b2 b3 b4 HK B hi5 Hr HO
  go_wp2_with fail
  obtain ⟨txt, htx⟩ : ∃ x, textC k t = x := ⟨_, rfl⟩
  rw [htx] at HJ
  have Hx := Lib.hid htx
  clear htx
  generalize itB (k 0) = i0 at HN0 HJ
  generalize itB (k 2) = i2 at HN2 HJ
  generalize itB (k 3) = i3 at HN3 HJ
  generalize itB (k 4) = i4 at HN4 HJ
  generalize nmB i = nm at HTX HJ
  have HS : Hid (TX w.heap.size 0 i (k 0) (k 2) (k 3) (k 4) nm w1.drew) := HTX.out.below (Below.refl _ _).drew
  replace HH := Lib.hid HH.out.drew
  refine wp_region_held_drew (S := TX w.heap.size 0 i (k 0) (k 2) (k 3) (k 4) nm) (by kernel_rfl) HS.out (fun _ => ?_)
  refine wpAnyH_take (i := 0) (v := (.pointer (some ⟨w.heap.size, 0, none⟩))) rfl (by kernel_rfl) (by kernel_rfl) (by kernel_rfl) (fun _ _ _ h => h) (.inl ⟨rfl, fun V hS => ?y0⟩) HS.out ?_
  case y0 =>
    obtain ⟨y0, y1, y2, y3, y4, y5⟩ := hS
    go_simp
  go_simp
  refine wpAnyH_take (i := 1) (v := (.int .i64 (k 0))) rfl (by kernel_rfl) (by kernel_rfl) (by kernel_rfl) (fun _ _ _ h => h) (.inl ⟨rfl, fun V hS => ?y0⟩) HS.out ?_
  case y0 =>
    obtain ⟨y0, y1, y2, y3, y4, y5⟩ := hS
    go_simp
  go_simp
  refine wpAnyH_take (i := 3) (v := (.pointer (some ⟨w.heap.size, 1, none⟩))) rfl (by kernel_rfl) (by kernel_rfl) (by kernel_rfl) (fun _ _ _ h => h) (.inl ⟨rfl, fun V hS => ?y0⟩) HS.out ?_
  case y0 =>
    obtain ⟨y0, y1, y2, y3, y4, y5⟩ := hS
    go_simp
  go_simp
  refine wpAnyH_take (i := 4) (v := (.int .i64 (i : Int))) rfl (by kernel_rfl) (by kernel_rfl) (by kernel_rfl) (fun _ _ _ h => h) (.inl ⟨rfl, fun V hS => ?y0⟩) HS.out ?_
  case y0 =>
    obtain ⟨y0, y1, y2, y3, y4, y5⟩ := hS
    go_simp
  go_simp
  refine wpAnyH_take (i := 5) (v := (.pointer (some ⟨0, i, none⟩))) rfl (by kernel_rfl) (by kernel_rfl) (by kernel_rfl) (fun _ _ _ h => h) (.inl ⟨rfl, fun V hS => ?y0⟩) HS.out ?_
  case y0 =>
    obtain ⟨y0, y1, y2, y3, y4, y5⟩ := hS
    go_simp
  go_simp
  refine wpAnyH_take (i := 6) (v := (.string nm)) rfl (by kernel_rfl) (by kernel_rfl) (by kernel_rfl) (fun _ _ _ h => h) (.inl ⟨rfl, fun V hS => ?y0⟩) HS.out ?_
  case y0 =>
    obtain ⟨y0, y1, y2, y3, y4, y5⟩ := hS
    go_simp
  go_simp
  refine wpAnyH_take (i := 7) (v := (.pointer (some ⟨w.heap.size, 2, none⟩))) rfl (by kernel_rfl) (by kernel_rfl) (by kernel_rfl) (fun _ _ _ h => h) (.inl ⟨rfl, fun V hS => ?y0⟩) HS.out ?_
  case y0 =>
    obtain ⟨y0, y1, y2, y3, y4, y5⟩ := hS
    go_simp
  go_simp
  refine wpAnyH_take (i := 8) (v := (.int .i64 (k 2))) rfl (by kernel_rfl) (by kernel_rfl) (by kernel_rfl) (fun _ _ _ h => h) (.inl ⟨rfl, fun V hS => ?y0⟩) HS.out ?_
  case y0 =>
    obtain ⟨y0, y1, y2, y3, y4, y5⟩ := hS
    go_simp
  go_simp
  refine wpAnyH_take (i := 10) (v := (.pointer (some ⟨w.heap.size, 3, none⟩))) rfl (by kernel_rfl) (by kernel_rfl) (by kernel_rfl) (fun _ _ _ h => h) (.inl ⟨rfl, fun V hS => ?y0⟩) HS.out ?_
  case y0 =>
    obtain ⟨y0, y1, y2, y3, y4, y5⟩ := hS
    go_simp
  go_simp
  refine wpAnyH_take (i := 11) (v := (.int .i64 (k 3))) rfl (by kernel_rfl) (by kernel_rfl) (by kernel_rfl) (fun _ _ _ h => h) (.inl ⟨rfl, fun V hS => ?y0⟩) HS.out ?_
  case y0 =>
    obtain ⟨y0, y1, y2, y3, y4, y5⟩ := hS
    go_simp
  go_simp
  refine wpAnyH_take (i := 13) (v := (.pointer (some ⟨w.heap.size, 4, none⟩))) rfl (by kernel_rfl) (by kernel_rfl) (by kernel_rfl) (fun _ _ _ h => h) (.inl ⟨rfl, fun V hS => ?y0⟩) HS.out ?_
  case y0 =>
    obtain ⟨y0, y1, y2, y3, y4, y5⟩ := hS
    go_simp
  go_simp
  refine wpAnyH_take (i := 14) (v := (.int .i64 (k 4))) rfl (by kernel_rfl) (by kernel_rfl) (by kernel_rfl) (fun _ _ _ h => h) (.inl ⟨rfl, fun V hS => ?y0⟩) HS.out ?_
  case y0 =>
    obtain ⟨y0, y1, y2, y3, y4, y5⟩ := hS
    go_simp
  go_simp
  refine wpAnyH_ready (rs := ([2])) (by kernel_rfl) (by simp) (AllReadyH.cons rfl (fun J hJ => ?_) AllReadyH.nil)
  go_simp
  refine ((HN0.out _ (HTa.out.below HH.out))).mono ?_
  rintro r w8 ⟨rfl, b8⟩
  replace HH := Lib.hid (bel_trans HH.out b8)
  replace HS := Lib.hid (HS.out.below b8)
  clear b8
  refine hJ.out _ _ HS.out (fun _ => ?_)
  clear hJ J
  go_simp
  refine wpAnyH_ready (rs := ([9])) (by kernel_rfl) (by simp) (AllReadyH.cons rfl (fun J hJ => ?_) AllReadyH.nil)
  go_simp
  refine ((HN2.out _ (HTa.out.below HH.out))).mono ?_
  rintro r w8 ⟨rfl, b8⟩
  replace HH := Lib.hid (bel_trans HH.out b8)
  replace HS := Lib.hid (HS.out.below b8)
  clear b8
  refine hJ.out _ _ HS.out (fun _ => ?_)
  clear hJ J
  go_simp
  refine wpAnyH_ready (rs := ([12])) (by kernel_rfl) (by simp) (AllReadyH.cons rfl (fun J hJ => ?_) AllReadyH.nil)
  go_simp
  refine ((HN3.out _ (HTa.out.below HH.out))).mono ?_
  rintro r w8 ⟨rfl, b8⟩
  replace HH := Lib.hid (bel_trans HH.out b8)
  replace HS := Lib.hid (HS.out.below b8)
  clear b8
  refine hJ.out _ _ HS.out (fun _ => ?_)
  clear hJ J
  go_simp
  refine wpAnyH_ready (rs := ([15])) (by kernel_rfl) (by simp) (AllReadyH.cons rfl (fun J hJ => ?_) AllReadyH.nil)
  go_simp
  refine ((HN4.out _ (HTa.out.below HH.out))).mono ?_
  rintro r w8 ⟨rfl, b8⟩
  replace HH := Lib.hid (bel_trans HH.out b8)
  replace HS := Lib.hid (HS.out.below b8)
  clear b8
  refine hJ.out _ _ HS.out (fun _ => ?_)
  clear hJ J
  go_simp
  refine wpAnyH_ready (rs := [16]) (by kernel_rfl) (by simp) (AllReadyH.cons rfl (fun J hJ => ?_) AllReadyH.nil)
  go_simp
  have hb9 := bel_alloc w8 (.cells #[.string i0, .string nm, .string i2, .string i3, .string i4] 9)
  have r9 := heap_alloc_new w8 (.cells #[.string i0, .string nm, .string i2, .string i3, .string i4] 9)
  replace HH := Lib.hid (bel_trans HH.out hb9)
  replace HS := Lib.hid (HS.out.below hb9)
  obtain ⟨w9, hw9⟩ : ∃ W', w8.alloc (.cells #[.string i0, .string nm, .string i2, .string i3, .string i4] 9) = W' := ⟨_, rfl⟩
  obtain ⟨bk, hbk⟩ : ∃ bk, w8.heap.size = bk := ⟨_, rfl⟩
  rw [hw9] at HH HS r9 ⊢
  rw [hbk] at r9 ⊢
  have HR := Lib.hid r9
  clear hw9 hbk hb9 r9
  refine hJ.out _ _ HS.out (fun _ => ?_)
  clear hJ J
  go_simp
  refine wpAnyH_take (i := 17) (v := (.slice (some ⟨bk, 0, none⟩) 5 5)) rfl (by kernel_rfl) (by kernel_rfl) (by kernel_rfl) (fun _ _ _ h => h) (.inl ⟨rfl, fun V hS => ?y0⟩) HS.out ?_
  case y0 =>
    obtain ⟨y0, y1, y2, y3, y4, y5⟩ := hS
    go_simp
  go_simp
  refine wpAnyH_done (by kernel_rfl) ?_ _
  go_wp2_with fail
  refine (HJ.out bk _ ?lt ?cl).mono ?_
  case lt => exact World.block_lt_of_cell? _ _ (cell_of_row _ _ 0 _ _ (0, 0) HR.out)
  case cl =>
    intro j x hj
    rw [Nat.zero_add, cell_of_row _ _ j _ _ (0, 0) HR.out]
    match j, hj with
    | 0, hj => simpa using hj
    | 1, hj => simpa using hj
    | 2, hj => simpa using hj
    | 3, hj => simpa using hj
    | 4, hj => simpa using hj
    | n + 5, hj => simp at hj
  rintro r w10 ⟨rfl, b10⟩
  replace HH := Lib.hid (bel_trans HH.out b10)
  clear b10
  go_wp2
  go_ret
  exact ⟨by rw [Hx.out]; rfl, HH.out⟩

set_option maxRecDepth 100000 in
set_option maxHeartbeats 1000000 in
theorem lawConnText (k : Nat → Int) (t : Bool) (w : World) (hn : Nms w) (ht : Num.Tab w) :
    Calls Tryd.prog 6 #[.agg #[.int .i64 (k 0), .int .i64 (k 1), .int .i64 (k 2), .int .i64 (k 3), .int .i64 (k 4), .bool t]] w fun e w' => e = .returned (.bool true) ∧ Below w.heap.size w w' := by
  have HSP := Lib.hid (fun W => specText_any k t W)
  have HIM := Lib.hid (fun W h1 h2 => implText_any k t W h1 h2)
  generalize textC k t = x at HSP HIM
  have HNs := Lib.hid hn
  have HTa := Lib.hid ht
  clear hn ht
  have HK := Lib.hid (KC.new k t w 41)
  have B := Lib.hid (bel_alloc w (.cells #[.int .i64 (k 0), .int .i64 (k 1), .int .i64 (k 2), .int .i64 (k 3), .int .i64 (k 4), .bool t] 41))
  go_enter Tryd.func6, Tryd.ntmps6
  go_wp2_with fail
  refine (toConn_any k t _).mono ?_
  rintro e w1 ⟨rfl, b1⟩
  replace HK := Lib.hid (HK.out.below b1)
  replace B := Lib.hid (bel_trans B.out b1)
  clear b1
  go_wp2_with fail
  refine (HSP.out _).mono ?_
  rintro e w2 ⟨rfl, b2⟩
  replace HK := Lib.hid (HK.out.below b2)
  replace B := Lib.hid (bel_trans B.out b2)
  clear b2
  obtain ⟨c0, c1, c2, c3, c4, c5⟩ := HK.out
  go_wp2_with fail
  refine (toConn_any k t _).mono ?_
  rintro e w3 ⟨rfl, b3⟩
  replace B := Lib.hid (bel_trans B.out b3)
  clear b3 c0 c1 c2 c3 c4 c5
  go_wp2_with fail
  refine (HIM.out _ (HNs.out.below B.out) (HTa.out.below B.out)).mono ?_
  rintro e w4 ⟨rfl, b4⟩
  replace B := Lib.hid (bel_trans B.out b4)
  clear b4
  go_wp2
  go_ret
  exact ⟨rfl, B.out⟩
end Go.Proofs.YtbmfleakldhabaaDoor.Kn
