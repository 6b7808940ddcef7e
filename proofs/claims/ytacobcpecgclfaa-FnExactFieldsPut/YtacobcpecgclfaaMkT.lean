/- Marks: the texts that the laws write into memory. -/
import Derived.Test.YtacobcpecgclfaaRows
import Derived.Test.YtacobcpecgclfaaStrs
import Derived.Deep.RegionHeld3
import Derived.Laws.BytesArg
namespace Go.Proofs.Ytacobcpecgclfaa
open Go.RowKit

/-- the figures of n ahead of t -/
def figsOf : Nat → Nat → ByteArray → ByteArray
  | 0, _, t => t
  | f + 1, n, t => if n = 0 then t else figsOf f (n / 10) (strOfNums [48 + (n : Int) % 10] ++ t)
theorem figsOf_enough (f : Nat) : ∀ n t, n ≤ f → figsOf f n t = figsOf n n t := by
  induction f using Nat.strongRecOn with
  | _ f ih =>
    intro n t h
    match f, n with
    | 0, 0 => rfl
    | f + 1, 0 => simp [figsOf]
    | f + 1, n + 1 =>
      show (if n + 1 = 0 then t else figsOf f ((n + 1) / 10) _) = (if n + 1 = 0 then t else figsOf n ((n + 1) / 10) _)
      rw [if_neg (by omega), if_neg (by omega), ih f (by omega) _ _ (by omega)]
      rw [ih n (by omega) _ _ (by omega)]
theorem figsOf_step {n : Nat} (t : ByteArray) (h : 0 < n) : figsOf n n t = figsOf (n / 10) (n / 10) (strOfNums [48 + (n : Int) % 10] ++ t) := by
  obtain ⟨m, rfl⟩ : ∃ m, n = m + 1 := ⟨n - 1, by omega⟩
  show (if m + 1 = 0 then t else figsOf m ((m + 1) / 10) _) = _
  rw [if_neg (by omega), figsOf_enough m _ _ (by omega)]
def mk (k : Int) : ByteArray := ⟨#[109]⟩ ++ figsOf k.toNat k.toNat ByteArray.empty

theorem cell_new_one (w : World) (x : Int) (t : TypeId) : ∀ i, i < 1 → (w.alloc (.cells #[.int .u8 x] t)).cell? ⟨w.heap.size, 0 + i, none⟩ = some (.int .u8 ([x].getD i 0)) := by
  intro i hi
  obtain rfl : i = 0 := by omega
  rw [cell_of_row _ _ _ _ _ _ (heap_alloc_new w _)]; rfl

set_option maxHeartbeats 1000000 in
theorem mark_any (k : Int) (w : World) (h0 : 0 < k) (h1 : k ≤ 4000000) :
    Calls Try.prog 29 #[.int .i64 k] w fun e w' => e = .returned (.string (mk k)) ∧ Below w.heap.size w w' := by
  obtain ⟨K, rfl⟩ := Int.eq_ofNat_of_zero_le (show 0 ≤ k by omega)
  have HM : Hid (mk (K : Int) = (⟨#[109]⟩ : ByteArray) ++ figsOf K K ByteArray.empty) := by show _ = _; unfold mk; rw [Int.toNat_natCast]
  go_enter Try.func29, Try.ntmps29
  go_wp2_with fail
  go_loopw [0, 3] (fun i s wr => ∃ (n : Nat) (t : ByteArray), n ≤ 4000000 ∧ i = .int .i64 n ∧ s = .string t ∧ t.size + n ≤ 4000000 ∧ figsOf n n t = figsOf K K ByteArray.empty ∧ Below w.heap.size w wr) (fun i _ _ => (intOf i).toNat)
  case atStart => exact ⟨K, ByteArray.empty, by omega, rfl, rfl, by simp; omega, rfl, Below.refl _ _⟩
  case round =>
    obtain ⟨n, t, hn, rfl, rfl, ht, hfig, hB⟩ := hrel
    have HFIG : Hid (figsOf n n t = figsOf K K ByteArray.empty) := hfig
    clear hfig
    by_cases hp : 0 < n
    · have hsz := hB.size
      have hcv := run_convert_bytes_arg (P := Try.prog) (wr.alloc (.cells #[.int .u8 (48 + (n : Int) % 10)] 5)) 74 5 Try.underlying74 Try.underlying5 wr.heap.size 0 1 1 [48 + (n : Int) % 10] rfl (cell_new_one _ _ _) 9 Try.underlying9
      have hs1 := strOfNums_size [48 + (n : Int) % 10]
      go_wp2_with fail
      go_roundw
      case rel => exact ⟨n / 10, _, by omega, by go_num, rfl, by rw [ByteArray.size_append, hs1]; simp; omega, by rw [← figsOf_step t hp]; exact HFIG.out, hB.alloc hsz _⟩
      case measure => simp [intOf]; omega
    · obtain rfl : n = 0 := by omega
      go_wp2_with fail
      go_ret
      refine ⟨?_, hB⟩
      rw [HM.out, ← HFIG.out]; rfl

theorem ne_self (s : ByteArray) : (!s.toList == s.toList) = false := by simp
end Go.Proofs.Ytacobcpecgclfaa
