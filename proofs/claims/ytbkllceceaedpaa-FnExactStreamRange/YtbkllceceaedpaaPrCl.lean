/- slices.Clone of rows of Pair. -/
import Derived.Test.YtbkllceceaedpaaPrB
import Derived.Maps.AppendAt
import Derived.Laws.AppendOwnNone
import Derived.Lib.SliceRun
namespace Go.Proofs.Ytbkllceceaedpaa
open Go.RowKit

set_option maxHeartbeats 4000000 in
theorem prClone_any (v : Value) (l : List (ByteArray × ByteArray)) (w : World) (hr : PrReads w v l) (hlen : l.length ≤ 1048576) :
    Calls Try.prog 80 #[v] w fun e w' => ∃ v', e = .returned v' ∧ PrOwns w' w.heap.size v' l ∧ Below w.heap.size w w' := by
  obtain ⟨i0, hi, hz0, hz1, hz2⟩ := info_parts prInfo
  have hown0 : (w.alloc (.cells #[] 107)).ownsRow w.heap.size 107 2 (.slice (some ⟨w.heap.size, 0, none⟩) 0 0) 0 [] := World.ownsRow_lit w #[] 0 (Nat.le_refl _) (by simp) rfl
  have hB0 : Below w.heap.size w (w.alloc (.cells #[] 107)) := (Below.refl _ _).alloc (Nat.le_refl _) _
  have hnil := fun (w : World) (a : Option Addr) (n c : Nat) => Lib.run_eql_slice_nil (P := Try.prog) w 57 107 a n c 0 0 Try.underlying57
  rcases hr with ⟨rfl, ao, cap, rfl, hcap⟩ | ⟨h0, b, off, cap, rfl, hb, hnc, hcm, hc⟩
  · cases ao with
    | none =>
      obtain rfl := hcap rfl
      go_enter Try.func80, Try.ntmps80
      go_wp2_with fail
      go_ret
      exact ⟨_, rfl, World.ownsRow_nil _ _ _ _, Below.refl _ _⟩
    | some a =>
      go_enter Try.func80, Try.ntmps80
      go_wp2_with (at_builtin; refine wpList_append_own _ rfl (.tmp 5) (.tmp 6) 57 rfl w.heap.size 107 i0 _ 2 _ Try.underlying57 hi hz0 hz1 hz2 rfl (by decide) _ _ _ rfl hown0 a 0 cap [] rfl rfl (by simp) (by simp) (by simp) (by simp) (by simp) ?_)
      intro v' w1 hown hgrow _
      go_wp2_with fail
      go_ret
      exact ⟨_, rfl, hown, hB0.grown hgrow (by simp) (fun k hk => (hown0.lt k hk).1)⟩
  · have hc' : ∀ k x, l[k]? = some x → (w.alloc (.cells #[] 107)).rangeAt b (off + k * 2) (prC x) := fun k x hk => rangeAt_keptB (hc k x hk) hB0 hb
    go_enter Try.func80, Try.ntmps80
    go_wp2_with (at_builtin; refine wpList_append_own _ rfl (.tmp 5) (.tmp 6) 57 rfl w.heap.size 107 i0 _ 2 32 Try.underlying57 hi hz0 hz1 hz2 rfl (by decide) _ _ _ rfl hown0 ⟨b, off, none⟩ l.length cap (l.flatMap prC) rfl (flat_len prC_len l) (rows_at prC_len hc') (flat_one prC_one l) (by unfold maxLen; omega) (by omega) (by simp) ?_)
    intro v' w1 hown hgrow _
    have ho : PrOwns w1 w.heap.size v' l := by unfold PrOwns OwnsR; simpa using hown
    clear hown
    go_wp2_with fail
    go_ret
    exact ⟨_, rfl, ho, hB0.grown hgrow (by simp) (fun k hk => (hown0.lt k hk).1)⟩
end Go.Proofs.Ytbkllceceaedpaa
