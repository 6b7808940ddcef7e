/- Has a list a text: the laws helper. -/
import Derived.Test.YtlgchkmgbjcboaaSetS
namespace Go.Proofs.Ytlgchkmgbjcboaa
open Go.RowKit

set_option maxHeartbeats 2000000 in
theorem qxHas_any (v : Value) (l : List ByteArray) (s : ByteArray) (w : World) (hr : Reads w v l) (hlen : l.length ≤ 1048576) :
    Calls Try.prog 18 #[v, .string s] w fun e w' => e = .returned (.bool (hasM l s)) ∧ w = w' := by
  obtain ⟨ao, cap, rfl⟩ := reads_shape hr
  go_enter Try.func18, Try.ntmps18
  go_wp2_with fail
  go_loopw [5] (fun i wr => ∃ k : Nat, k ≤ l.length ∧ i = .int .i64 (k : Int) ∧ hasM (l.take k) s = false ∧ w = wr) (fun i _ => l.length - (intOf i).toNat)
  case atStart => exact ⟨0, Nat.zero_le _, rfl, rfl, rfl⟩
  case round =>
    obtain ⟨k, hk, rfl, hno, rfl⟩ := hrel
    have HNO : Hid (hasM (l.take k) s = false) := hno
    clear hno
    by_cases hlt : k < l.length
    · obtain ⟨b, off, rfl, hb, hc⟩ := reads_someS hr (by omega)
      have hcell := hc k hlt
      have hi1 : (k : Int) < (l.length : Int) := by omega
      clear hc
      by_cases hst : at_ l k = s
      · have heq := eqB_true hst
        have HH : Hid (hasM l s = true) := hasM_snoc_hit hlt hst
        clear hst
        go_wp2_with fail
        go_ret
        exact ⟨by rw [HH.out]; rfl, rfl⟩
      · have heq := eqB_false hst
        have HH : Hid (hasM (l.take (k + 1)) s = false) := hasM_snoc_miss hlt hst HNO.out
        clear hst
        go_wp2_with fail
        go_roundw
        case rel => exact ⟨k + 1, hlt, by go_num, HH.out, by trivial⟩
        case measure => simp [intOf]; omega
    · obtain rfl : k = l.length := by omega
      have HH : Hid (hasM l s = false) := by show _ = _; have := HNO.out; rwa [List.take_length] at this
      go_wp2_with fail
      go_ret
      exact ⟨by rw [HH.out]; rfl, rfl⟩
end Go.Proofs.Ytlgchkmgbjcboaa
