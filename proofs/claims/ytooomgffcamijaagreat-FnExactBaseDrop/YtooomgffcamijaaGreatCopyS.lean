/- The model's copy of a list. -/
import Derived.Test.YtooomgffcamijaaGreatOkS
import Derived.Laws.AppendOwnNone
import Derived.Maps.AppendAt
namespace Go.Proofs.YtooomgffcamijaaGreat
open Go.RowKit

theorem strs_one (l : List ByteArray) : ∀ u ∈ l.map Value.string, u.oneCell' = true := by
  intro u hu; rw [List.mem_map] at hu; obtain ⟨s, _, rfl⟩ := hu; rfl
theorem strs_at {w : World} {b off : Nat} {l : List ByteArray} (hc : ∀ k, k < l.length → w.cell? ⟨b, off + k, none⟩ = some (.string (at_ l k))) :
    ∀ j u, (l.map Value.string)[j]? = some u → w.cell? ((⟨b, off, none⟩ : Addr).add j) = some u := by
  intro j u hu
  have hadd : (⟨b, off, none⟩ : Addr).add j = ⟨b, off + j, none⟩ := by unfold Addr.add; split <;> simp_all
  rw [List.getElem?_map] at hu
  cases hl : l[j]? with
  | none => rw [hl] at hu; cases hu
  | some s =>
    have hj := (List.getElem?_eq_some_iff.1 hl).1
    rw [hl] at hu
    rw [hadd, hc j hj, ← hu, at_lt hj]
    rw [List.getElem?_eq_getElem hj] at hl
    cases hl; rfl

/-- a cut of a list, however its address is written -/
theorem reads_cut {w : World} {b off cap : Nat} {l : List ByteArray} (hb : b < w.heap.size) (hnc : l.length ≤ cap) (hcm : cap ≤ maxLen) (hc : ∀ k, k < l.length → w.cell? ⟨b, off + k, none⟩ = some (.string (at_ l k)))
    {ao : Option Addr} {a e n c : Nat} (hao : ¬ cap = a → ao = some ⟨b, off + a, none⟩) (hne : ao ≠ none) (hae : a ≤ e) (he : e ≤ l.length) (hn : n = e - a) (hcc : c = cap - a) : Reads w (.slice ao n c) ((l.take e).drop a) := by
  subst hn hcc
  have hlen : ((l.take e).drop a).length = e - a := by simp; omega
  by_cases h0 : e - a = 0
  · rw [h0]
    refine .inl ⟨List.length_eq_zero_iff.1 (by omega), ao, _, rfl, fun h => absurd h hne⟩
  · refine .inr ⟨by omega, b, off + a, cap - a, by rw [hao (by omega), hlen], hb, by omega, by omega, fun k hk => ?_⟩
    rw [Nat.add_assoc, hc (a + k) (by omega)]
    unfold at_
    rw [List.getD_eq_getElem?_getD, List.getD_eq_getElem?_getD, List.getElem?_drop, List.getElem?_take, if_pos (by omega)]

set_option maxHeartbeats 1000000 in
theorem copy_any (v : Value) (l : List ByteArray) (w : World) (hr : Reads w v l) (hlen : l.length ≤ 1048576) :
    Calls Tryz.prog 69 #[v] w fun e w' => ∃ v', e = .returned v' ∧ Owns w' w.heap.size v' l ∧ Below w.heap.size w w' := by
  obtain ⟨i0, hi, hz0, hz1, hz2⟩ := info_parts infoS
  have hown0 : (w.alloc (.cells #[] 9)).ownsRow w.heap.size 9 1 (.slice (some ⟨w.heap.size, 0, none⟩) 0 0) 0 [] := World.ownsRow_lit w #[] 0 (Nat.le_refl _) (by simp) rfl
  have hB0 : Below w.heap.size w (w.alloc (.cells #[] 9)) := (Below.refl _ _).alloc (Nat.le_refl _) _
  rcases hr with ⟨rfl, ao, cap, rfl, hcap⟩ | ⟨h0, b, off, cap, rfl, hb, hnc, hcm, hc⟩
  · cases ao with
    | none =>
      obtain rfl := hcap rfl
      go_enter Tryz.func69, Tryz.ntmps69
      go_wp2_with (at_builtin; refine wpList_append_own_none rfl (.tmp 3) (.tmp 4) 45 rfl w.heap.size 9 i0 1 Tryz.underlying45 hi _ _ _ rfl hown0 rfl ?_)
      go_ret
      exact ⟨_, rfl, hown0, hB0⟩
    | some a =>
      go_enter Tryz.func69, Tryz.ntmps69
      go_wp2_with (at_builtin; refine wpList_append_own _ rfl (.tmp 3) (.tmp 4) 45 rfl w.heap.size 9 i0 (.string ByteArray.empty) 1 16 Tryz.underlying45 hi hz0 hz1 hz2 rfl (by decide) _ _ _ rfl hown0 a 0 cap [] rfl rfl (by simp) (by simp) (by simp) (by simp) (by simp) ?_)
      intro v' w1 hown hgrow _
      go_wp2_with fail
      go_ret
      exact ⟨_, rfl, hown, hB0.grown hgrow (by simp) (fun k hk => (hown0.lt k hk).1)⟩
  · have hc' : ∀ k, k < l.length → (w.alloc (.cells #[] 9)).cell? ⟨b, off + k, none⟩ = some (.string (at_ l k)) := fun k hk => (hB0.cell (p := ⟨b, off + k, none⟩) hb).trans (hc k hk)
    go_enter Tryz.func69, Tryz.ntmps69
    go_wp2_with (at_builtin; refine wpList_append_own _ rfl (.tmp 3) (.tmp 4) 45 rfl w.heap.size 9 i0 (.string ByteArray.empty) 1 16 Tryz.underlying45 hi hz0 hz1 hz2 rfl (by decide) _ _ _ rfl hown0 ⟨b, off, none⟩ l.length cap (l.map Value.string) rfl (by simp) (strs_at hc') (strs_one l) (by unfold maxLen; omega) (by omega) (by simp) ?_)
    intro v' w1 hown hgrow _
    go_wp2_with fail
    go_ret
    exact ⟨_, rfl, hown, hB0.grown hgrow (by simp) (fun k hk => (hown0.lt k hk).1)⟩
end Go.Proofs.YtooomgffcamijaaGreat
