/- A map from Ids to true that a call makes, in memory: its look-up, its store, its length. Whether a row of bools has a false. -/
import Derived.Test.YtjbfmagedkmngaaImp1
import Derived.Test.YtjbfmagedkmngaaRng2
namespace Go.Proofs.Ytjbfmagedkmngaa.Que
open Go.RowKit Go.Deep Base

def entry (x : Int) (i : Nat) : MapEntry := { key := .int .i64 x, val := .bool true, born := i }
def entries : List Int → Nat → List MapEntry
  | [], _ => []
  | x :: r, i => entry x i :: entries r (i + 1)
def mapObj (ids : List Int) : Obj := .map (entries ids 0).toArray ids.length

theorem entries_len : ∀ (ids : List Int) (i : Nat), (entries ids i).length = ids.length
  | [], _ => rfl
  | _ :: r, i => by simp [entries, entries_len r (i + 1)]
theorem entries_snoc : ∀ (ids : List Int) (x : Int) (i : Nat), entries (ids ++ [x]) i = entries ids i ++ [entry x (i + ids.length)]
  | [], x, i => by simp [entries]
  | y :: r, x, i => by
    simp [entries, entries_snoc r x (i + 1)]
    rw [show i + 1 + r.length = i + (r.length + 1) from by omega]

theorem find_now (x : Int) : ∀ (ids : List Int) (i k : Nat), ∃ r, Instr.findNow (.int .i64) (.int .i64 x) (entries ids i) k = some r ∧ (r.map (·.2)) = if ids.contains x then some (.bool true) else none
  | [], i, k => ⟨none, rfl, rfl⟩
  | y :: r, i, k => by
    by_cases e : x = y
    · subst e
      refine ⟨some (k, .bool true), ?_, ?_⟩
      · simp [entries, entry, Instr.findNow, Instr.sameNow]
      · simp
    · obtain ⟨q, h1, h2⟩ := find_now x r (i + 1) (k + 1)
      refine ⟨q, ?_, ?_⟩
      · have hb : (x == y) = false := beq_eq_false_iff_ne.2 e
        simp [entries, entry, Instr.findNow, Instr.sameNow, hb, h1]
      · rw [h2]; simp [e]

theorem check_int (b : Bool) (x : Int) (w : World) : (Instr.checkKey b 10000 3 (.int .i64 x)).run Try.prog w = .ok () w := by
  unfold Instr.checkKey
  simp [Sem.run_bind, run_underlying Try.underlying3]

theorem find_key (x : Int) (ids : List Int) (w : World) : ∃ r, (Instr.findKey 3 (.int .i64 x) (entries ids 0)).run Try.prog w = .ok r w ∧ (r.map (·.2)) = if ids.contains x then some (.bool true) else none := by
  obtain ⟨r, h1, h2⟩ := find_now x ids 0 0
  exact ⟨r, by simp [Instr.findKey, Sem.run_bind, run_underlying Try.underlying3, h1], h2⟩

theorem get_map {w : World} {mb : Nat} {ids : List Int} (h : w.heap[mb]? = some (mapObj ids)) : (getObj mb).run Try.prog w = .ok (mapObj ids) w := by simp [getObj, Sem.run, h, mapObj]

theorem look_ids {w : World} {mb : Nat} {ids : List Int} (h : w.heap[mb]? = some (mapObj ids)) (x : Int) : (Instr.lookup 78 (.map (some mb)) (.int .i64 x) false).run Try.prog w = .ok (.bool (ids.contains x)) w := by
  obtain ⟨r, h1, h2⟩ := find_key x ids w
  have hz : (zeroValue 4).run Try.prog w = .ok (.bool false) w := Try.zeroValue4 w
  have hg := get_map h
  have he : ∀ b, (Instr.checkKey b 10000 3 (.int .i64 x)).run Try.prog w = .ok () w := fun b => check_int b x w
  cases hc : ids.contains x
  · rw [hc] at h2
    have : r = none := by simpa using h2
    subst this
    simp [Instr.lookup, Sem.run_bind, run_underlying Try.underlying78, hg, mapObj, he, h1, hz]
  · rw [hc] at h2
    obtain ⟨q, rfl, hq⟩ : ∃ q, r = some q ∧ q.2 = .bool true := by simpa using h2
    obtain ⟨q1, q2⟩ := q
    simp at hq
    subst hq
    simp [Instr.lookup, Sem.run_bind, run_underlying Try.underlying78, hg, mapObj, he, h1]

theorem put_ids {w : World} {mb : Nat} {ids : List Int} (h : w.heap[mb]? = some (mapObj ids)) {x : Int} (hx : ids.contains x = false) :
    (Instr.mapUpdate 78 (.map (some mb)) (.int .i64 x) (.bool true)).run Try.prog w = .ok () (w.putObj mb (mapObj (ids ++ [x]))) := by
  obtain ⟨r, h1, h2⟩ := find_key x ids w
  rw [hx] at h2
  have : r = none := by simpa using h2
  subst this
  have hg := get_map h
  have hs : (setObj mb (mapObj (ids ++ [x]))).run Try.prog w = .ok () (w.putObj mb (mapObj (ids ++ [x]))) := by simp [setObj, Sem.run, h, World.putObj, mapObj]
  have e2 : mapObj (ids ++ [x]) = Obj.map (entries ids 0 ++ [({ key := .int .i64 x, val := .bool true, born := ids.length } : MapEntry)]).toArray (ids.length + 1) := by simp [mapObj, entries_snoc, entry]
  have he := check_int false x w
  unfold mapObj at hg
  simp [Instr.mapUpdate, Sem.run_bind, run_underlying Try.underlying78, hg, he, h1]
  rw [e2] at hs ⊢
  exact hs

/-- Whether the n bools f 0, f 1, .. are all true. -/
def allT (n : Nat) (f : Nat → Bool) : Bool := (List.range n).all f
theorem allT_false {n k : Nat} {f : Nat → Bool} (hk : k < n) (h : f k = false) : allT n f = false := by
  unfold allT; rw [List.all_eq_false]; exact ⟨k, List.mem_range.2 hk, by rw [h]; simp⟩
theorem allT_true {n : Nat} {f : Nat → Bool} (h : ∀ k, k < n → f k = true) : allT n f = true := by
  unfold allT; rw [List.all_eq_true]; exact fun k hk => h k (List.mem_range.1 hk)

def IdxB (n : Nat) (f : Nat → Bool) (w : World) (e : Ending) (w' : World) : Prop := (∃ k : Int, e = .returned (.int .i64 k) ∧ decide (0 ≤ k) = !(allT n f)) ∧ w = w'

set_option maxHeartbeats 400000 in
theorem indexB_any (g n cap : Nat) (f : Nat → Bool) (w : World) (hm : n ≤ 1048576) (h : ∀ i, i < n → w.cell? ⟨g, i, none⟩ = some (.bool (f i))) :
    Calls Try.prog 70 #[.slice (some ⟨g, 0, none⟩) n cap, .bool false] w (IdxB n f w) := by
  have HI := Lib.hid h
  clear h
  go_enter Try.func70, Try.ntmps70
  go_wp2
  go_loop [8] (fun i => ∃ k : Nat, k ≤ n ∧ i = .int .i64 k ∧ ∀ j, j < k → f j = true) (fun i => n - (intOf i).toNat)
  case atStart => exact ⟨0, Nat.zero_le _, rfl, fun j hj => by omega⟩
  case round =>
    obtain ⟨k, hk, rfl, hq⟩ := hrel
    have Hq := Lib.hid hq
    clear hq
    by_cases hlt : k < n
    · have hc := HI.out k hlt
      cases hf : f k
      · have Hf := Lib.hid hf
        rw [hf] at hc
        clear hf
        go_wp2
        go_ret
        exact ⟨⟨k, rfl, by rw [allT_false hlt Hf.out]; simp⟩, rfl⟩
      · have Hf := Lib.hid hf
        rw [hf] at hc
        clear hf
        go_wp2
        go_round
        case rel =>
          refine ⟨k + 1, by omega, by go_num, fun j hj => ?_⟩
          by_cases e : j = k
          · subst e; exact Hf.out
          · exact Hq.out j (by omega)
        case measure => simp [intOf]; omega
    · obtain rfl : k = n := by omega
      go_wp2
      go_ret
      exact ⟨⟨-1, rfl, by rw [allT_true Hq.out]; rfl⟩, rfl⟩

theorem contB_any (g n cap : Nat) (f : Nat → Bool) (w : World) (hm : n ≤ 1048576) (h : ∀ i, i < n → w.cell? ⟨g, i, none⟩ = some (.bool (f i))) :
    Calls Try.prog 68 #[.slice (some ⟨g, 0, none⟩) n cap, .bool false] w fun e w' => e = .returned (.bool (!(allT n f))) ∧ w = w' := by
  have HI := Lib.hid h
  clear h
  go_enter Try.func68, Try.ntmps68
  go_wp2_with fail
  refine (indexB_any g n cap f _ hm HI.out).mono ?_
  rintro e w' ⟨⟨k, rfl, hk⟩, rfl⟩
  have Hk := Lib.hid hk
  clear hk
  go_wp2
  go_ret
  exact ⟨ret_bool Hk.out, rfl⟩
end Go.Proofs.Ytjbfmagedkmngaa.Que
