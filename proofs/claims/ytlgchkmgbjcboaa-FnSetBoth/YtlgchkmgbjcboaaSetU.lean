/- The model's SetDrop. -/
import Derived.Test.YtlgchkmgbjcboaaSetT
namespace Go.Proofs.Ytlgchkmgbjcboaa
open Go.RowKit

def sdropR (a b : List ByteArray) : List ByteArray := if setB a = true then lessM a b else []
def sdropN (a b : List ByteArray) : Int := if setB a = true then (a.length : Int) - (lessM a b).length else 0

set_option maxHeartbeats 8000000 in
theorem specSDrop_any (v u : Value) (a b : List ByteArray) (w : World) (hr : Reads w v a) (hq : Reads w u b) (ha : a.length ≤ 1048576) (hb : b.length ≤ 1048576) :
    Calls Try.prog 21 #[v, u] w fun e w' => ∃ x, e = .returned (.tuple #[x, .int .i64 (sdropN a b)]) ∧ Owns w' w.heap.size x (sdropR a b) ∧ Below w.heap.size w w' := by
  obtain ⟨i0, hi, hz0, hz1, hz2⟩ := info_parts infoS
  obtain ⟨ao, cap, rfl⟩ := reads_shape hr
  have ho0 : Owns (w.alloc (.cells #[] 9)) w.heap.size (.slice (some ⟨w.heap.size, 0, none⟩) 0 0) [] := World.ownsRow_lit w #[] 0 (Nat.le_refl _) (by simp) rfl
  have hB0 : Below w.heap.size w (w.alloc (.cells #[] 9)) := (Below.refl _ _).alloc (Nat.le_refl _) _
  cases hs : setB a with
  | false =>
    have HR : Hid (sdropR a b = [] ∧ sdropN a b = 0) := by show _ ∧ _; unfold sdropR sdropN; rw [hs]; exact ⟨rfl, rfl⟩
    go_enter Try.func21, Try.ntmps21
    go_wp2_with fail
    refine (specSetOk_any _ a _ (reads_kept hr hB0) ha).mono ?_
    rintro e w2 ⟨rfl, hb2⟩
    have hB2 := below_stepT hB0 hb2
    have ho2 := owns_kept ho0 hb2
    rw [hs]
    clear hb2 hB0 ho0
    go_wp2_with fail
    go_ret2
    exact ⟨_, by rw [HR.out.2]; rfl, by rw [HR.out.1]; exact ho2, hB2⟩
  | true =>
    have HR : Hid (sdropR a b = lessM a b ∧ sdropN a b = (a.length : Int) - (lessM a b).length) := by show _ ∧ _; unfold sdropR sdropN; rw [hs]; exact ⟨rfl, rfl⟩
    go_enter Try.func21, Try.ntmps21
    go_wp2_with fail
    refine (specSetOk_any _ a _ (reads_kept hr hB0) ha).mono ?_
    rintro e w2 ⟨rfl, hb2⟩
    have hB2 := below_stepT hB0 hb2
    have ho2 := owns_kept ho0 hb2
    rw [hs]
    clear hb2 hB0 ho0
    go_wp2_with fail
    go_loopw [6, 7] (fun x i wr => ∃ k : Nat, k ≤ a.length ∧ i = .int .i64 (k : Int) ∧ Owns wr w.heap.size x (lessM (a.take k) b) ∧ Below w.heap.size w wr) (fun _ i _ => a.length - (intOf i).toNat)
    case atStart => exact ⟨0, Nat.zero_le _, rfl, ho2, hB2⟩
    case round =>
      obtain ⟨k, hk, rfl, ho3, hB3⟩ := hrel
      clear ho2 hB2
      have hob := lessM_len (a.take k) b
      have htk : (a.take k).length = k := by simp; omega
      have hsz := hB3.size
      by_cases hlt : k < a.length
      · have hi1 : (k : Int) < (a.length : Int) := by omega
        obtain ⟨bl, off, rfl, hbl, hc⟩ := reads_someS hr (by omega)
        have hcell : wr.cell? ⟨bl, off + k, none⟩ = some (.string (at_ a k)) := (hB3.cell (p := ⟨bl, off + k, none⟩) hbl).trans (hc k hlt)
        clear hc
        go_wp2_with fail
        refine (l2Has_any _ b (at_ a k) _ (reads_kept hq hB3) hb).mono ?_
        rintro e w4 ⟨rfl, rfl⟩
        cases hh : hasM b (at_ a k) with
        | false =>
          have HS : Hid (lessM (a.take (k + 1)) b = lessM (a.take k) b ++ [at_ a k]) := less_snoc_hit hlt hh
          generalize lessM (a.take k) b = O at *
          have hol := ho3
          unfold Owns at hol
          have hB3a := hB3.alloc hsz (.cells #[.string (at_ a k)] 9)
          go_wp2_with (at_builtin; refine wpList_append_own _ rfl (.tmp 26) (.tmp 31) 23 rfl w.heap.size 9 i0 (.string ByteArray.empty) 1 16 Try.underlying23 hi hz0 hz1 hz2 rfl (by decide) _ _ _ rfl (hol.alloc _) ⟨wr.heap.size, 0, none⟩ 1 1 [.string (at_ a k)] rfl rfl (cell_one_new _ _ _) (strs_one [at_ a k]) (by unfold maxLen; omega) (by omega) (by simp; omega) ?_)
          intro x5 w5 hown5 hgrow5 _
          have ho5 : Owns w5 w.heap.size x5 (O ++ [at_ a k]) := by unfold Owns; rw [List.length_append, List.map_append]; exact hown5
          have hB5 : Below w.heap.size w w5 := hB3a.grown hgrow5 (by simp; omega) (fun j hj => (hol.lt j hj).1)
          clear hown5 hgrow5 hol hB3a ho3
          go_wp2_with fail
          go_roundw
          case rel => exact ⟨k + 1, hlt, by go_num, by rw [HS.out]; exact ho5, hB5⟩
          case measure => simp [intOf]; omega
        | true =>
          have HS : Hid (lessM (a.take (k + 1)) b = lessM (a.take k) b) := less_snoc_miss hlt hh
          go_wp2_with fail
          go_roundw
          case rel => exact ⟨k + 1, hlt, by go_num, by rw [HS.out]; exact ho3, hB3⟩
          case measure => simp [intOf]; omega
      · obtain rfl : k = a.length := by omega
        rw [List.take_length] at ho3 hob
        obtain ⟨a3, c3, hx3⟩ := reads_shape (owns_reads ho3)
        subst hx3
        generalize lessM a b = O at *
        go_wp2_with fail
        go_ret2
        exact ⟨_, by rw [HR.out.2]; rfl, by rw [HR.out.1]; exact ho3, hB3⟩
end Go.Proofs.Ytlgchkmgbjcboaa
