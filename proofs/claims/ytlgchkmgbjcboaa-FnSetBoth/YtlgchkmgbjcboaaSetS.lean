/- The model's sets: whether a text is one of others; SetBoth, SetLess, SetDrop. -/
import Derived.Test.YtlgchkmgbjcboaaSetM
import Derived.Test.YtlgchkmgbjcboaaSetOk
import Derived.Test.YtlgchkmgbjcboaaCopyS
import Derived.Test.YtlgchkmgbjcboaaMark
namespace Go.Proofs.Ytlgchkmgbjcboaa
open Go.RowKit

theorem reads_someS {w : World} {ao : Option Addr} {cap : Nat} {l : List ByteArray} (h : Reads w (.slice ao l.length cap) l) (h0 : 0 < l.length) :
    ∃ b off, ao = some ⟨b, off, none⟩ ∧ b < w.heap.size ∧ ∀ k, k < l.length → w.cell? ⟨b, off + k, none⟩ = some (.string (at_ l k)) := by
  rcases h with ⟨rfl, _⟩ | ⟨_, b, off, cap', hv, hb, _, _, hc⟩
  · simp at h0
  · simp only [Value.slice.injEq, true_and] at hv
    exact ⟨b, off, hv.1, hb, hc⟩
theorem hasM_snoc_hit {l : List ByteArray} {s : ByteArray} {k : Nat} (hk : k < l.length) (h : at_ l k = s) : hasM l s = true := by
  rw [hasM_iff, ← h, at_lt hk]; exact List.getElem_mem hk
theorem hasM_snoc_miss {l : List ByteArray} {s : ByteArray} {k : Nat} (hk : k < l.length) (h : at_ l k ≠ s) (h0 : hasM (l.take k) s = false) : hasM (l.take (k + 1)) s = false := by
  have e : l.take (k + 1) = l.take k ++ [at_ l k] := by rw [List.take_succ_eq_append_getElem hk, at_lt hk]
  rw [e]; unfold hasM at *; rw [List.any_append, h0]; simp [h]
theorem eqB_true {a b : ByteArray} (h : a = b) : (a.toList == b.toList) = true := by rw [h]; simp
theorem eqB_false {a b : ByteArray} (h : a ≠ b) : (a.toList == b.toList) = false := by
  cases he : (a.toList == b.toList) with
  | false => rfl
  | true => exact absurd (bytes_ext (by simpa using he)) h

set_option maxHeartbeats 2000000 in
theorem l2Has_any (v : Value) (l : List ByteArray) (s : ByteArray) (w : World) (hr : Reads w v l) (hlen : l.length ≤ 1048576) :
    Calls Try.prog 44 #[v, .string s] w fun e w' => e = .returned (.bool (hasM l s)) ∧ w = w' := by
  obtain ⟨ao, cap, rfl⟩ := reads_shape hr
  go_enter Try.func44, Try.ntmps44
  go_wp2_with fail
  go_loopw [5] (fun i wr => ∃ k : Nat, k ≤ l.length ∧ i = .int .i64 (k : Int) ∧ hasM (l.take k) s = false ∧ w = wr) (fun i _ => l.length - (intOf i).toNat)
  case atStart => exact ⟨0, Nat.zero_le _, rfl, rfl, rfl⟩
  case round =>
    obtain ⟨k, hk, rfl, hno, rfl⟩ := hrel
    have HNO : Hid (hasM (l.take k) s = false) := hno
    clear hno
    by_cases hlt : k < l.length
    · obtain ⟨b, off, rfl, hb, hc⟩ := reads_someS hr (by omega)
      have hcell := hc k hlt
      have hi1 : (k : Int) < (l.length : Int) := by omega
      clear hc
      by_cases hst : at_ l k = s
      · have heq := eqB_true hst
        have HH : Hid (hasM l s = true) := hasM_snoc_hit hlt hst
        clear hst
        go_wp2_with fail
        go_ret
        exact ⟨by rw [HH.out]; rfl, rfl⟩
      · have heq := eqB_false hst
        have HH : Hid (hasM (l.take (k + 1)) s = false) := hasM_snoc_miss hlt hst HNO.out
        clear hst
        go_wp2_with fail
        go_roundw
        case rel => exact ⟨k + 1, hlt, by go_num, HH.out, by trivial⟩
        case measure => simp [intOf]; omega
    · obtain rfl : k = l.length := by omega
      have HH : Hid (hasM l s = false) := by show _ = _; have := HNO.out; rwa [List.take_length] at this
      go_wp2_with fail
      go_ret
      exact ⟨by rw [HH.out]; rfl, rfl⟩
end Go.Proofs.Ytlgchkmgbjcboaa
