/- The model's SetAny, SetAdd. -/
import Derived.Test.YtlgchkmgbjcboaaSetW
import Derived.Test.YtlgchkmgbjcboaaSetZ
namespace Go.Proofs.Ytlgchkmgbjcboaa
open Go.RowKit

theorem putM_len (s : ByteArray) : ∀ (l : List ByteArray), (putM l s).length ≤ l.length + 1
  | [] => by simp [putM]
  | x :: l => by
    unfold putM; split
    · have := putM_len s l; simp only [List.length_cons]; omega
    · split <;> simp
theorem putsM_len : ∀ (b a : List ByteArray), (putsM a b).length ≤ a.length + b.length
  | [], a => by simp [putsM]
  | y :: b, a => by
    have h1 := putsM_len b (putM a y)
    have h2 := putM_len y a
    unfold putsM at *
    rw [List.foldl_cons, List.length_cons]; omega
theorem anyM_len (a b : List ByteArray) : (putsM a b).length ≤ a.length + b.length := putsM_len b a
theorem setB_len {a : List ByteArray} (h : setB a = true) : a.length ≤ 16 := by
  unfold setB okB at h; simp only [Bool.and_eq_true, decide_eq_true_eq] at h; exact h.2.1
theorem anyR_len (a b : List ByteArray) : (anyR a b).length ≤ 32 := by
  unfold anyR
  cases h : (setB a && setB b) with
  | false => simp
  | true =>
    rw [if_pos rfl]
    rw [Bool.and_eq_true] at h
    have h1 := setB_len h.1; have h2 := setB_len h.2; have := anyM_len a b; omega
theorem puts_snoc {a b : List ByteArray} {k : Nat} (hk : k < b.length) : putsM a (b.take (k + 1)) = putM (putsM a (b.take k)) (at_ b k) := by
  rw [List.take_succ_eq_append_getElem hk, ← at_lt hk]; unfold putsM; simp

set_option maxHeartbeats 8000000 in
theorem specAny_any (v u : Value) (a b : List ByteArray) (w : World) (hr : Reads w v a) (hq : Reads w u b) (ha : a.length ≤ 1048576) (hb : b.length ≤ 1048576) :
    Calls Try.prog 27 #[v, u] w fun e w' => ∃ x, e = .returned x ∧ Owns w' w.heap.size x (anyR a b) ∧ Below w.heap.size w w' := by
  obtain ⟨ab, cb, rfl⟩ := reads_shape hq
  cases hsa : setB a with
  | false =>
    have HR : Hid (anyR a b = []) := by show _ = _; unfold anyR; rw [hsa]; rfl
    go_enter Try.func27, Try.ntmps27
    go_wp2_with fail
    refine (specSetOk_any _ a _ hr ha).mono ?_
    rintro e w2 ⟨rfl, hb2⟩
    have hB2 := below_stepT (Below.refl _ w) hb2
    have ho2 : Owns (w2.alloc (.cells #[] 9)) w.heap.size (.slice (some ⟨w2.heap.size, 0, none⟩) 0 0) [] := World.ownsRow_lit w2 #[] 0 hB2.size (by simp) rfl
    have hB2' := hB2.alloc hB2.size (.cells #[] 9)
    rw [hsa]
    go_wp2_with fail
    go_ret
    exact ⟨_, rfl, by rw [HR.out]; exact ho2, hB2'⟩
  | true =>
    go_enter Try.func27, Try.ntmps27
    go_wp2_with fail
    refine (specSetOk_any _ a _ hr ha).mono ?_
    rintro e w2 ⟨rfl, hb2⟩
    have hB2 := below_stepT (Below.refl _ w) hb2
    rw [hsa]
    clear hb2
    go_wp2_with fail
    refine (specSetOk_any _ b _ (reads_kept hq hB2) hb).mono ?_
    rintro e w3 ⟨rfl, hb3⟩
    have hB3 := below_stepT hB2 hb3
    clear hb3 hB2
    cases hsb : setB b with
    | false =>
      have HR : Hid (anyR a b = []) := by show _ = _; unfold anyR; rw [hsa, hsb]; rfl
      have ho2 : Owns (w3.alloc (.cells #[] 9)) w.heap.size (.slice (some ⟨w3.heap.size, 0, none⟩) 0 0) [] := World.ownsRow_lit w3 #[] 0 hB3.size (by simp) rfl
      have hB2' := hB3.alloc hB3.size (.cells #[] 9)
      go_wp2_with fail
      go_ret
      exact ⟨_, rfl, by rw [HR.out]; exact ho2, hB2'⟩
    | true =>
      have HR : Hid (anyR a b = putsM a b) := by show _ = _; unfold anyR; rw [hsa, hsb]; rfl
      clear hsa hsb
      go_wp2_with fail
      refine (copy_any _ a _ (reads_kept hr hB3) ha).mono ?_
      rintro e w4 ⟨x4, rfl, ho4, hb4⟩
      have hB4 := below_stepT hB3 hb4
      have ho4' := owns_base ho4 hB3.size
      clear ho4 hb4 hB3
      go_wp2_with fail
      go_loopw [5, 6] (fun x i wr => ∃ k : Nat, k ≤ b.length ∧ i = .int .i64 (k : Int) ∧ Owns wr w.heap.size x (putsM a (b.take k)) ∧ Below w.heap.size w wr) (fun _ i _ => b.length - (intOf i).toNat)
      case atStart => exact ⟨0, Nat.zero_le _, rfl, ho4', hB4⟩
      case round =>
        obtain ⟨k, hk, rfl, ho, hB⟩ := hrel
        clear ho4' hB4
        by_cases hlt : k < b.length
        · have hi1 : (k : Int) < (b.length : Int) := by omega
          obtain ⟨bl, off, rfl, hbl, hc⟩ := reads_someS hq (by omega)
          have hcell : wr.cell? ⟨bl, off + k, none⟩ = some (.string (at_ b k)) := (hB.cell (p := ⟨bl, off + k, none⟩) hbl).trans (hc k hlt)
          clear hc
          have hpl := putsM_len (b.take k) a
          have htk : (b.take k).length = k := by simp; omega
          have HS : Hid (putsM a (b.take (k + 1)) = putM (putsM a (b.take k)) (at_ b k)) := puts_snoc hlt
          generalize putsM a (b.take k) = O at *
          go_wp2_with fail
          refine (l2Put_any _ O (at_ b k) w.heap.size _ ho hB.size (by omega)).mono ?_
          rintro e w5 ⟨x5, rfl, ho5, hb5⟩
          have hB5 := below_stepT hB hb5
          clear hb5 hB ho
          go_wp2_with fail
          go_roundw
          case rel => exact ⟨k + 1, hlt, by go_num, by rw [HS.out]; exact ho5, hB5⟩
          case measure => simp [intOf]; omega
        · obtain rfl : k = b.length := by omega
          rw [List.take_length] at ho
          go_wp2_with fail
          go_ret
          exact ⟨_, rfl, by rw [HR.out]; exact ho, hB⟩
end Go.Proofs.Ytlgchkmgbjcboaa
