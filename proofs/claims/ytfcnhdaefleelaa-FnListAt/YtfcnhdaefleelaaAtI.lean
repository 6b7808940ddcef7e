/- The first place of a text in a list: the program's and the model's. No condition but that what is read is a list. -/
import Derived.Test.YtfcnhdaefleelaaOkS
namespace Go.Proofs.Ytfcnhdaefleelaa
open Go.RowKit

def sameT (a b : ByteArray) : Bool := a.toList == b.toList
def idxS (l : List ByteArray) (t : ByteArray) : Int := match l.findIdx? (fun s => sameT s t) with | some k => (k : Int) | none => -1
/-- of a list that is ok -/
def atR (l : List ByteArray) (t : ByteArray) : Int := if okB l = true then idxS l t else -1
theorem atR_ok {l : List ByteArray} (t : ByteArray) (h : okB l = true) : atR l t = idxS l t := by unfold atR; rw [if_pos h]
theorem atR_no {l : List ByteArray} (t : ByteArray) (h : okB l = false) : atR l t = -1 := by unfold atR; rw [h]; rfl
theorem idx_hit {l : List ByteArray} {t : ByteArray} {k : Nat} (hk : k < l.length) (hy : sameT (at_ l k) t = true) (hn : ∀ i, i < k → sameT (at_ l i) t = false) : idxS l t = (k : Int) := by
  have h : l.findIdx? (fun s => sameT s t) = some k := by
    rw [List.findIdx?_eq_some_iff_getElem]
    refine ⟨hk, by rw [← at_lt hk]; exact hy, fun j hj => ?_⟩
    have := hn j hj
    rw [at_lt (Nat.lt_trans hj hk)] at this
    simp [this]
  unfold idxS; rw [h]
theorem idx_none {l : List ByteArray} {t : ByteArray} (hn : ∀ i, i < l.length → sameT (at_ l i) t = false) : idxS l t = -1 := by
  have h : l.findIdx? (fun s => sameT s t) = none := by
    rw [List.findIdx?_eq_none_iff]
    intro x hx
    obtain ⟨i, hi, rfl⟩ := List.getElem_of_mem hx
    rw [← at_lt hi]; exact hn i hi
  unfold idxS; rw [h]
theorem idx_step {l : List ByteArray} {t : ByteArray} {k : Nat} (hn : ∀ i, i < k → sameT (at_ l i) t = false) (h : sameT (at_ l k) t = false) : ∀ i, i < k + 1 → sameT (at_ l i) t = false := by
  intro i hi
  by_cases e : i = k
  · rw [e]; exact h
  · exact hn i (by omega)
theorem sameT_comm (a b : ByteArray) : sameT a b = sameT b a := by unfold sameT; exact Bool.eq_iff_iff.2 ⟨fun h => by rw [beq_iff_eq] at h ⊢; exact h.symm, fun h => by rw [beq_iff_eq] at h ⊢; exact h.symm⟩
theorem ret_intS {k : IntKind} {a b : Int} (h : a = b) : Ending.returned (.int k a) = .returned (.int k b) := by rw [h]

set_option maxHeartbeats 1000000 in
theorem index_any (v : Value) (l : List ByteArray) (t : ByteArray) (w : World) (hr : Reads w v l) (hlen : l.length ≤ 1048576) :
    Calls Try.prog 42 #[v, .string t] w fun e w' => e = .returned (.int .i64 (idxS l t)) ∧ w = w' := by
  rcases hr with ⟨rfl, ao, cap, rfl, _⟩ | ⟨h0, b, off, cap, rfl, hb, hnc, hcm, hc⟩
  · go_enter Try.func42, Try.ntmps42
    go_wp2_with fail
    refine wp_loop_rounds 1 ?_
    rw [rounds_succ]
    go_wp2_with fail
    go_ret
    exact ⟨rfl, rfl⟩
  · clear hcm hnc
    have HC : Hid (∀ k, k < l.length → w.cell? ⟨b, off + k, none⟩ = some (.string (at_ l k))) := hc
    clear hc
    go_enter Try.func42, Try.ntmps42
    go_wp2_with fail
    go_loop [5, 8] (fun _ i => ∃ k : Nat, k ≤ l.length ∧ i = .int .i64 k ∧ Hid (∀ i, i < k → sameT (at_ l i) t = false)) (fun _ i => l.length - (intOf i).toNat)
    case atStart => exact ⟨0, Nat.zero_le _, rfl, fun i h => absurd h (Nat.not_lt_zero _)⟩
    case round =>
      obtain ⟨k, hk, rfl, HN⟩ := hrel
      by_cases hlt : k < l.length
      · have hcell := HC.out k hlt
        have hlt2 : (k : Int) < (l.length : Int) := by omega
        cases hs : sameT (at_ l k) t with
        | true =>
          have h1 : (t.toList == (at_ l k).toList) = true := by have := hs; rw [sameT_comm] at this; exact this
          have HI : Hid (idxS l t = (k : Int)) := idx_hit hlt hs HN.out
          go_wp2_with fail
          go_ret
          exact ⟨ret_intS HI.out.symm, rfl⟩
        | false =>
          have h1 : (t.toList == (at_ l k).toList) = false := by have := hs; rw [sameT_comm] at this; exact this
          have HN2 : Hid (∀ i, i < k + 1 → sameT (at_ l i) t = false) := idx_step HN.out hs
          go_wp2_with fail
          go_round
          case rel => exact ⟨k + 1, hlt, by go_num, HN2⟩
          case measure => simp [intOf]; omega
      · obtain rfl : k = l.length := by omega
        have HI : Hid (idxS l t = -1) := idx_none HN.out
        go_wp2_with fail
        go_ret
        exact ⟨ret_intS HI.out.symm, rfl⟩
set_option maxHeartbeats 1000000 in
theorem implAt_any (v : Value) (l : List ByteArray) (t : ByteArray) (w : World) (hr : Reads w v l) (hlen : l.length ≤ 1048576) :
    Calls Try.prog 15 #[v, .string t] w fun e w' => e = .returned (.int .i64 (atR l t)) ∧ w = w' := by
  have hrr := hr
  obtain ⟨ao, cap, rfl⟩ := reads_shape hr
  cases hok : okB l with
  | true =>
    have HF : Hid (atR l t = idxS l t) := atR_ok t hok
    go_enter Try.func15, Try.ntmps15
    go_wp2_with (first | (go_at_call 28; refine (listOk_any _ l _ hrr hlen).mono ?_; rw [hok]; rintro e w' ⟨rfl, rfl⟩) | (go_at_call 42; refine (index_any _ l t _ hrr hlen).mono ?_; rintro e w' ⟨rfl, rfl⟩))
    go_ret
    exact ⟨ret_intS HF.out.symm, rfl⟩
  | false =>
    have HF : Hid (atR l t = -1) := atR_no t hok
    go_enter Try.func15, Try.ntmps15
    go_wp2_with (go_at_call 28; refine (listOk_any _ l _ hrr hlen).mono ?_; rw [hok]; rintro e w' ⟨rfl, rfl⟩)
    go_ret
    exact ⟨ret_intS HF.out.symm, rfl⟩
set_option maxHeartbeats 1000000 in
theorem specAt_any (v : Value) (l : List ByteArray) (t : ByteArray) (w : World) (hr : Reads w v l) (hlen : l.length ≤ 1048576) :
    Calls Try.prog 16 #[v, .string t] w fun e w' => e = .returned (.int .i64 (atR l t)) ∧ w = w' := by
  have hrr := hr
  rcases hr with ⟨rfl, ao, cap, rfl, _⟩ | ⟨h0, b, off, cap, rfl, hb, hnc, hcm, hc⟩
  · have HF : Hid (atR [] t = -1) := by show _ = _; unfold atR; split <;> rfl
    go_enter Try.func16, Try.ntmps16
    go_wp2_with fail
    refine wp_loop_rounds 1 ?_
    rw [rounds_succ]
    go_wp2_with fail
    go_ret
    exact ⟨ret_intS HF.out.symm, rfl⟩
  · clear hcm hnc
    have HC : Hid (∀ k, k < l.length → w.cell? ⟨b, off + k, none⟩ = some (.string (at_ l k))) := hc
    clear hc
    cases hok : okB l with
    | false =>
      have HF : Hid (atR l t = -1) := atR_no t hok
      have hl0 : (0 : Int) < (l.length : Int) := by omega
      go_enter Try.func16, Try.ntmps16
      go_wp2_with fail
      refine wp_loop_rounds 1 ?_
      rw [rounds_succ]
      go_wp2_with (go_at_call 35; refine (l2Texts_any _ l _ hrr hlen).mono ?_; rw [hok]; rintro e w' ⟨rfl, rfl⟩)
      go_ret
      exact ⟨ret_intS HF.out.symm, rfl⟩
    | true =>
      have HF : Hid (atR l t = idxS l t) := atR_ok t hok
      go_enter Try.func16, Try.ntmps16
      go_wp2_with fail
      go_loop [5] (fun i => ∃ k : Nat, k ≤ l.length ∧ i = .int .i64 k ∧ Hid (∀ i, i < k → sameT (at_ l i) t = false)) (fun i => l.length - (intOf i).toNat)
      case atStart => exact ⟨0, Nat.zero_le _, rfl, fun i h => absurd h (Nat.not_lt_zero _)⟩
      case round =>
        obtain ⟨k, hk, rfl, HN⟩ := hrel
        by_cases hlt : k < l.length
        · have hcell := HC.out k hlt
          have hlt2 : (k : Int) < (l.length : Int) := by omega
          cases hs : sameT (at_ l k) t with
          | true =>
            have h1 : ((at_ l k).toList == t.toList) = true := hs
            have HI : Hid (idxS l t = (k : Int)) := idx_hit hlt hs HN.out
            go_wp2_with (go_at_call 35; refine (l2Texts_any _ l _ hrr hlen).mono ?_; rw [hok]; rintro e w' ⟨rfl, rfl⟩)
            go_ret
            exact ⟨ret_intS (HF.out.trans HI.out).symm, rfl⟩
          | false =>
            have h1 : ((at_ l k).toList == t.toList) = false := hs
            have HN2 : Hid (∀ i, i < k + 1 → sameT (at_ l i) t = false) := idx_step HN.out hs
            go_wp2_with (go_at_call 35; refine (l2Texts_any _ l _ hrr hlen).mono ?_; rw [hok]; rintro e w' ⟨rfl, rfl⟩)
            go_round
            case rel => exact ⟨k + 1, hlt, by go_num, HN2⟩
            case measure => simp [intOf]; omega
        · obtain rfl : k = l.length := by omega
          have HI : Hid (idxS l t = -1) := idx_none HN.out
          go_wp2_with fail
          go_ret
          exact ⟨ret_intS (HF.out.trans HI.out).symm, rfl⟩
end Go.Proofs.Ytfcnhdaefleelaa
