/- The model's SetBoth, SetLess, SetDrop. -/
import Derived.Test.YtlgchkmgbjcboaaSetS
import Derived.Test.YtlgchkmgbjcboaaOwn
namespace Go.Proofs.Ytlgchkmgbjcboaa
open Go.RowKit

theorem below_stepT {B : Nat} {a w w' : World} (h : Below B a w) (hb : Below w.heap.size w w') (hB : B ≤ a.heap.size := by exact Nat.le_refl _) : Below B a w' := h.trans (hb.mono (Nat.le_trans hB h.size))
def bothR (a b : List ByteArray) : List ByteArray := if (setB a && setB b) = true then bothM a b else []
theorem both_snoc_hit {a b : List ByteArray} {k : Nat} (hk : k < a.length) (h : hasM b (at_ a k) = true) : bothM (a.take (k + 1)) b = bothM (a.take k) b ++ [at_ a k] := by
  rw [List.take_succ_eq_append_getElem hk, ← at_lt hk]; unfold bothM; simp [h]
theorem both_snoc_miss {a b : List ByteArray} {k : Nat} (hk : k < a.length) (h : hasM b (at_ a k) = false) : bothM (a.take (k + 1)) b = bothM (a.take k) b := by
  rw [List.take_succ_eq_append_getElem hk, ← at_lt hk]; unfold bothM; simp [h]
theorem bothM_len (a b : List ByteArray) : (bothM a b).length ≤ a.length := List.length_filter_le _ _

set_option maxHeartbeats 8000000 in
theorem specBoth_any (v u : Value) (a b : List ByteArray) (w : World) (hr : Reads w v a) (hq : Reads w u b) (ha : a.length ≤ 1048576) (hb : b.length ≤ 1048576) :
    Calls Try.prog 26 #[v, u] w fun e w' => ∃ x, e = .returned x ∧ Owns w' w.heap.size x (bothR a b) ∧ Below w.heap.size w w' := by
  obtain ⟨i0, hi, hz0, hz1, hz2⟩ := info_parts infoS
  obtain ⟨ao, cap, rfl⟩ := reads_shape hr
  have ho0 : Owns (w.alloc (.cells #[] 9)) w.heap.size (.slice (some ⟨w.heap.size, 0, none⟩) 0 0) [] := World.ownsRow_lit w #[] 0 (Nat.le_refl _) (by simp) rfl
  have hB0 : Below w.heap.size w (w.alloc (.cells #[] 9)) := (Below.refl _ _).alloc (Nat.le_refl _) _
  cases hs : (setB a && setB b) with
  | false =>
    have HR : Hid (bothR a b = []) := by show _ = _; unfold bothR; rw [hs]; rfl
    by_cases h0 : 0 < a.length
    · have h0' : (0 : Int) < (a.length : Int) := by omega
      go_enter Try.func26, Try.ntmps26
      go_wp2_with fail
      refine wp_loop_rounds 1 ?_
      rw [rounds_succ]
      go_wp2_with fail
      refine (specSetOk_any _ a _ (reads_kept hr hB0) ha).mono ?_
      rintro e w2 ⟨rfl, hb2⟩
      have hB2 := below_stepT hB0 hb2
      have ho2 := owns_kept ho0 hb2
      clear hb2
      cases hsa : setB a with
      | false =>
        go_wp2_with fail
        go_ret
        exact ⟨_, rfl, by rw [HR.out]; exact ho2, hB2⟩
      | true =>
        have hsb : setB b = false := by rw [hsa] at hs; simpa using hs
        go_wp2_with fail
        refine (specSetOk_any _ b _ (reads_kept hq hB2) hb).mono ?_
        rintro e w3 ⟨rfl, hb3⟩
        have hB3 := below_stepT hB2 hb3
        have ho3 := owns_kept ho2 hb3
        rw [hsb]
        clear hb3
        go_wp2_with fail
        go_ret
        exact ⟨_, rfl, by rw [HR.out]; exact ho3, hB3⟩
    · have h0' : ¬ (0 : Int) < (a.length : Int) := by omega
      go_enter Try.func26, Try.ntmps26
      go_wp2_with fail
      refine wp_loop_rounds 1 ?_
      rw [rounds_succ]
      go_wp2_with fail
      go_ret
      exact ⟨_, rfl, by rw [HR.out]; exact ho0, hB0⟩
  | true =>
    have hsa : setB a = true := by rw [Bool.and_eq_true] at hs; exact hs.1
    have hsb : setB b = true := by rw [Bool.and_eq_true] at hs; exact hs.2
    have HR : Hid (bothR a b = bothM a b) := by show _ = _; unfold bothR; rw [hs]; rfl
    clear hs
    go_enter Try.func26, Try.ntmps26
    go_wp2_with fail
    go_loopw [5, 6] (fun x i wr => ∃ k : Nat, k ≤ a.length ∧ i = .int .i64 (k : Int) ∧ Owns wr w.heap.size x (bothM (a.take k) b) ∧ Below w.heap.size w wr) (fun _ i _ => a.length - (intOf i).toNat)
    case atStart => exact ⟨0, Nat.zero_le _, rfl, ho0, hB0⟩
    case round =>
      obtain ⟨k, hk, rfl, ho, hB⟩ := hrel
      clear ho0 hB0
      by_cases hlt : k < a.length
      · have hi1 : (k : Int) < (a.length : Int) := by omega
        go_wp2_with fail
        refine (specSetOk_any _ a _ (reads_kept hr hB) ha).mono ?_
        rintro e w2 ⟨rfl, hb2⟩
        have hB2 := below_stepT hB hb2
        have ho2 := owns_kept ho hb2
        rw [hsa]
        clear hb2 hB ho
        go_wp2_with fail
        refine (specSetOk_any _ b _ (reads_kept hq hB2) hb).mono ?_
        rintro e w3 ⟨rfl, hb3⟩
        have hB3 := below_stepT hB2 hb3
        have ho3 := owns_kept ho2 hb3
        rw [hsb]
        clear hb3 hB2 ho2
        obtain ⟨bl, off, rfl, hbl, hc⟩ := reads_someS hr (by omega)
        have hcell : w3.cell? ⟨bl, off + k, none⟩ = some (.string (at_ a k)) := (hB3.cell (p := ⟨bl, off + k, none⟩) hbl).trans (hc k hlt)
        have hsz := hB3.size
        have hob := bothM_len (a.take k) b
        have htk : (a.take k).length = k := by simp; omega
        clear hc
        go_wp2_with fail
        refine (l2Has_any _ b (at_ a k) _ (reads_kept hq hB3) hb).mono ?_
        rintro e w4 ⟨rfl, rfl⟩
        cases hh : hasM b (at_ a k) with
        | true =>
          have HS : Hid (bothM (a.take (k + 1)) b = bothM (a.take k) b ++ [at_ a k]) := both_snoc_hit hlt hh
          generalize bothM (a.take k) b = O at *
          have hol := ho3
          unfold Owns at hol
          have hB3a := hB3.alloc hsz (.cells #[.string (at_ a k)] 9)
          go_wp2_with (at_builtin; refine wpList_append_own _ rfl (.tmp 28) (.tmp 33) 23 rfl w.heap.size 9 i0 (.string ByteArray.empty) 1 16 Try.underlying23 hi hz0 hz1 hz2 rfl (by decide) _ _ _ rfl (hol.alloc _) ⟨w3.heap.size, 0, none⟩ 1 1 [.string (at_ a k)] rfl rfl (cell_one_new _ _ _) (strs_one [at_ a k]) (by unfold maxLen; omega) (by omega) (by simp; omega) ?_)
          intro x5 w5 hown5 hgrow5 _
          have ho5 : Owns w5 w.heap.size x5 (O ++ [at_ a k]) := by unfold Owns; rw [List.length_append, List.map_append]; exact hown5
          have hB5 : Below w.heap.size w w5 := hB3a.grown hgrow5 (by simp; omega) (fun j hj => (hol.lt j hj).1)
          clear hown5 hgrow5 hol hB3a ho3
          go_wp2_with fail
          go_roundw
          case rel => exact ⟨k + 1, hlt, by go_num, by rw [HS.out]; exact ho5, hB5⟩
          case measure => simp [intOf]; omega
        | false =>
          have HS : Hid (bothM (a.take (k + 1)) b = bothM (a.take k) b) := both_snoc_miss hlt hh
          go_wp2_with fail
          go_roundw
          case rel => exact ⟨k + 1, hlt, by go_num, by rw [HS.out]; exact ho3, hB3⟩
          case measure => simp [intOf]; omega
      · obtain rfl : k = a.length := by omega
        rw [List.take_length] at ho
        go_wp2_with fail
        go_ret
        exact ⟨_, rfl, by rw [HR.out]; exact ho, hB⟩

def lessR (a b : List ByteArray) : List ByteArray := if (setB a && setB b) = true then lessM a b else []
theorem less_snoc_hit {a b : List ByteArray} {k : Nat} (hk : k < a.length) (h : hasM b (at_ a k) = false) : lessM (a.take (k + 1)) b = lessM (a.take k) b ++ [at_ a k] := by
  rw [List.take_succ_eq_append_getElem hk, ← at_lt hk]; unfold lessM; simp [h]
theorem less_snoc_miss {a b : List ByteArray} {k : Nat} (hk : k < a.length) (h : hasM b (at_ a k) = true) : lessM (a.take (k + 1)) b = lessM (a.take k) b := by
  rw [List.take_succ_eq_append_getElem hk, ← at_lt hk]; unfold lessM; simp [h]
theorem lessM_len (a b : List ByteArray) : (lessM a b).length ≤ a.length := List.length_filter_le _ _

set_option maxHeartbeats 8000000 in
theorem specLess_any (v u : Value) (a b : List ByteArray) (w : World) (hr : Reads w v a) (hq : Reads w u b) (ha : a.length ≤ 1048576) (hb : b.length ≤ 1048576) :
    Calls Try.prog 28 #[v, u] w fun e w' => ∃ x, e = .returned x ∧ Owns w' w.heap.size x (lessR a b) ∧ Below w.heap.size w w' := by
  obtain ⟨i0, hi, hz0, hz1, hz2⟩ := info_parts infoS
  obtain ⟨ao, cap, rfl⟩ := reads_shape hr
  have ho0 : Owns (w.alloc (.cells #[] 9)) w.heap.size (.slice (some ⟨w.heap.size, 0, none⟩) 0 0) [] := World.ownsRow_lit w #[] 0 (Nat.le_refl _) (by simp) rfl
  have hB0 : Below w.heap.size w (w.alloc (.cells #[] 9)) := (Below.refl _ _).alloc (Nat.le_refl _) _
  cases hs : (setB a && setB b) with
  | false =>
    have HR : Hid (lessR a b = []) := by show _ = _; unfold lessR; rw [hs]; rfl
    by_cases h0 : 0 < a.length
    · have h0' : (0 : Int) < (a.length : Int) := by omega
      go_enter Try.func28, Try.ntmps28
      go_wp2_with fail
      refine wp_loop_rounds 1 ?_
      rw [rounds_succ]
      go_wp2_with fail
      refine (specSetOk_any _ a _ (reads_kept hr hB0) ha).mono ?_
      rintro e w2 ⟨rfl, hb2⟩
      have hB2 := below_stepT hB0 hb2
      have ho2 := owns_kept ho0 hb2
      clear hb2
      cases hsa : setB a with
      | false =>
        go_wp2_with fail
        go_ret
        exact ⟨_, rfl, by rw [HR.out]; exact ho2, hB2⟩
      | true =>
        have hsb : setB b = false := by rw [hsa] at hs; simpa using hs
        go_wp2_with fail
        refine (specSetOk_any _ b _ (reads_kept hq hB2) hb).mono ?_
        rintro e w3 ⟨rfl, hb3⟩
        have hB3 := below_stepT hB2 hb3
        have ho3 := owns_kept ho2 hb3
        rw [hsb]
        clear hb3
        go_wp2_with fail
        go_ret
        exact ⟨_, rfl, by rw [HR.out]; exact ho3, hB3⟩
    · have h0' : ¬ (0 : Int) < (a.length : Int) := by omega
      go_enter Try.func28, Try.ntmps28
      go_wp2_with fail
      refine wp_loop_rounds 1 ?_
      rw [rounds_succ]
      go_wp2_with fail
      go_ret
      exact ⟨_, rfl, by rw [HR.out]; exact ho0, hB0⟩
  | true =>
    have hsa : setB a = true := by rw [Bool.and_eq_true] at hs; exact hs.1
    have hsb : setB b = true := by rw [Bool.and_eq_true] at hs; exact hs.2
    have HR : Hid (lessR a b = lessM a b) := by show _ = _; unfold lessR; rw [hs]; rfl
    clear hs
    go_enter Try.func28, Try.ntmps28
    go_wp2_with fail
    go_loopw [5, 6] (fun x i wr => ∃ k : Nat, k ≤ a.length ∧ i = .int .i64 (k : Int) ∧ Owns wr w.heap.size x (lessM (a.take k) b) ∧ Below w.heap.size w wr) (fun _ i _ => a.length - (intOf i).toNat)
    case atStart => exact ⟨0, Nat.zero_le _, rfl, ho0, hB0⟩
    case round =>
      obtain ⟨k, hk, rfl, ho, hB⟩ := hrel
      clear ho0 hB0
      by_cases hlt : k < a.length
      · have hi1 : (k : Int) < (a.length : Int) := by omega
        go_wp2_with fail
        refine (specSetOk_any _ a _ (reads_kept hr hB) ha).mono ?_
        rintro e w2 ⟨rfl, hb2⟩
        have hB2 := below_stepT hB hb2
        have ho2 := owns_kept ho hb2
        rw [hsa]
        clear hb2 hB ho
        go_wp2_with fail
        refine (specSetOk_any _ b _ (reads_kept hq hB2) hb).mono ?_
        rintro e w3 ⟨rfl, hb3⟩
        have hB3 := below_stepT hB2 hb3
        have ho3 := owns_kept ho2 hb3
        rw [hsb]
        clear hb3 hB2 ho2
        obtain ⟨bl, off, rfl, hbl, hc⟩ := reads_someS hr (by omega)
        have hcell : w3.cell? ⟨bl, off + k, none⟩ = some (.string (at_ a k)) := (hB3.cell (p := ⟨bl, off + k, none⟩) hbl).trans (hc k hlt)
        have hsz := hB3.size
        have hob := lessM_len (a.take k) b
        have htk : (a.take k).length = k := by simp; omega
        clear hc
        go_wp2_with fail
        refine (l2Has_any _ b (at_ a k) _ (reads_kept hq hB3) hb).mono ?_
        rintro e w4 ⟨rfl, rfl⟩
        cases hh : hasM b (at_ a k) with
        | false =>
          have HS : Hid (lessM (a.take (k + 1)) b = lessM (a.take k) b ++ [at_ a k]) := less_snoc_hit hlt hh
          generalize lessM (a.take k) b = O at *
          have hol := ho3
          unfold Owns at hol
          have hB3a := hB3.alloc hsz (.cells #[.string (at_ a k)] 9)
          go_wp2_with (at_builtin; refine wpList_append_own _ rfl (.tmp 29) (.tmp 34) 23 rfl w.heap.size 9 i0 (.string ByteArray.empty) 1 16 Try.underlying23 hi hz0 hz1 hz2 rfl (by decide) _ _ _ rfl (hol.alloc _) ⟨w3.heap.size, 0, none⟩ 1 1 [.string (at_ a k)] rfl rfl (cell_one_new _ _ _) (strs_one [at_ a k]) (by unfold maxLen; omega) (by omega) (by simp; omega) ?_)
          intro x5 w5 hown5 hgrow5 _
          have ho5 : Owns w5 w.heap.size x5 (O ++ [at_ a k]) := by unfold Owns; rw [List.length_append, List.map_append]; exact hown5
          have hB5 : Below w.heap.size w w5 := hB3a.grown hgrow5 (by simp; omega) (fun j hj => (hol.lt j hj).1)
          clear hown5 hgrow5 hol hB3a ho3
          go_wp2_with fail
          go_roundw
          case rel => exact ⟨k + 1, hlt, by go_num, by rw [HS.out]; exact ho5, hB5⟩
          case measure => simp [intOf]; omega
        | true =>
          have HS : Hid (lessM (a.take (k + 1)) b = lessM (a.take k) b) := less_snoc_miss hlt hh
          go_wp2_with fail
          go_roundw
          case rel => exact ⟨k + 1, hlt, by go_num, by rw [HS.out]; exact ho3, hB3⟩
          case measure => simp [intOf]; omega
      · obtain rfl : k = a.length := by omega
        rw [List.take_length] at ho
        go_wp2_with fail
        go_ret
        exact ⟨_, rfl, by rw [HR.out]; exact ho, hB⟩
end Go.Proofs.Ytlgchkmgbjcboaa
