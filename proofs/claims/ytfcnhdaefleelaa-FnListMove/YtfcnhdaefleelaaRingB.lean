/- What stands in a ring, from one place to another one; a ring of a list. -/
import Derived.Test.YtfcnhdaefleelaaRing
import Derived.Deep.RegionLaw
import Derived.Deep.RegionHeld3
import Derived.Deep.AppendLies
import Derived.Maps.AppendAt
namespace Go.Proofs.Ytfcnhdaefleelaa
open Go.RowKit

/-- places from .. of a ring, j of them -/
def seg (sl : List ByteArray) (f from_ j : Nat) : List ByteArray := (List.range j).map fun i => at_ sl ((f + (from_ + i)) % 16)
theorem seg_succ (sl : List ByteArray) (f a j : Nat) : seg sl f a (j + 1) = seg sl f a j ++ [at_ sl ((f + (a + j)) % 16)] := by
  unfold seg; rw [List.range_succ, List.map_append]; rfl
theorem seg_len (sl : List ByteArray) (f a j : Nat) : (seg sl f a j).length = j := by simp [seg]

theorem one_str (s : ByteArray) : ∀ u ∈ [Value.string s], u.oneCell' = true := by
  intro u hu; rw [List.mem_singleton] at hu; subst hu; rfl
theorem own_ne {w : World} {base b : Nat} {e : TypeId} {v : Value} {n : Nat} {xs : List Value} (h : w.ownsRow base e 1 v n xs) (hb : b < base) : some b ≠ v.ownBlock := by
  intro hh
  have := (h.lt b hh.symm).1
  omega

set_option maxRecDepth 100000 in
set_option maxHeartbeats 2000000 in
theorem between_any (b f n : Nat) (sl : List ByteArray) (a e : Nat) (w : World) (h : RingAt w b sl f n) (h1 : a ≤ e) (h2 : e ≤ 16) :
    Calls Try.prog 60 #[.pointer (some ⟨b, 0, none⟩), .int .i64 (a : Int), .int .i64 (e : Int)] w fun r w' => ∃ v, r = .returned v ∧ Owns w' w.heap.size v (seg sl f a (e - a)) ∧ Below w.heap.size w w' := by
  obtain ⟨i0, hi, hz0, hz1, hz2⟩ := info_parts infoS
  have hlt := h.2.1
  obtain ⟨d, rfl⟩ : ∃ d, e = a + d := ⟨e - a, by omega⟩
  have ed : a + d - a = d := by omega
  rw [ed]
  go_enter Try.func60, Try.ntmps60
  go_wp2_with (at_make; refine wpList_make_own _ rfl _ _ 23 rfl w.heap.size 9 i0 (.string ByteArray.empty) 1 Try.underlying23 hi hz0 hz1 _ _ _ d rfl rfl (by omega) (by rw [hz2]; omega) (by unfold maxLen; omega) (Nat.le_refl _) ?_)
  intro w1 hown hgrow
  have hB1 : Below w.heap.size w w1 := (Below.refl _ _).grown hgrow (Nat.le_refl _) (fun k hk => by cases hk)
  clear hgrow
  go_wp2_with fail
  go_loopw [7, 8] (fun v i wr => ∃ j : Nat, j ≤ d ∧ i = .int .i64 ((a : Int) + (j : Int)) ∧ Owns wr w.heap.size v (seg sl f a j) ∧ Below w.heap.size w wr) (fun _ i _ => a + d - (intOf i).toNat)
  case atStart => exact ⟨0, Nat.zero_le _, by simp, hown, hB1⟩
  case round =>
    obtain ⟨j, hj, rfl, ho, hB⟩ := hrel
    have hR := ring_kept h hB
    unfold Owns at ho
    rw [seg_len] at ho
    have hne := own_ne ho (ring_lt h)
    clear hown hB1
    by_cases hlt2 : j < d
    · have hc := ring_first hR
      have HWR : Hid (IntKind.i64.wrap ((f : Int) + ((a : Int) + (j : Int))) = (f : Int) + ((a : Int) + (j : Int))) := wrap_small (by omega) (by omega)
      go_wp2_with fail
      go_region_held3 (fun w' => w'.cell? ⟨b, 16, none⟩ = some (.int .i64 (f : Int))) (go_keep) (first
        | (refine step_append_lies _ rfl _ _ 23 rfl w.heap.size 9 i0 (.string ByteArray.empty) 1 16 Try.underlying23 hi hz0 hz1 hz2 rfl (by decide) _ j _ rfl (by exact ho.alloc _) ⟨wr.heap.size, 0, none⟩ 1 1 _ rfl rfl (cell_one_new _ _ _) (one_str _) (by decide) (by unfold maxLen; omega) (by omega) (by have := hB.size; simp; omega) _ rfl ?_; intro g cap w2 hown2 hgrow2 hat2 hlt3; have hk2 := hgrow2.cell (a := ⟨b, 16, none⟩) (by assumption) hne)
        | (go_at_call 59; rw [HWR.out]; refine (get_any b f n sl _ _ (by exact hR) (by omega) (by omega)).mono ?_; rintro e w' ⟨rfl, rfl⟩))
      have hsz := hB.size
      have hB2 : Below w.heap.size w w2 := Below.grown (((hB.alloc hsz _).drew)) hgrow2 (by simp; omega) (fun k hk => (ho.lt k hk).1)
      have e : ((f : Int) + ((a : Int) + (j : Int))).toNat = f + (a + j) := by omega
      rw [e] at hown2
      have ho2 : Owns w2 w.heap.size (.slice (some ⟨g, 0, none⟩) (j + 1) cap) (seg sl f a (j + 1)) := by
        unfold Owns; rw [seg_len, seg_succ, List.map_append]; exact hown2
      clear hown2 hgrow2 hk2 ho hR hc
      go_wp2_with fail
      go_roundw
      case rel => exact ⟨j + 1, hlt2, by go_num, ho2, hB2⟩
      case measure => simp [intOf]; omega
    · have ej : j = d := by omega
      subst ej
      go_wp2_with fail
      go_ret
      exact ⟨_, rfl, by unfold Owns; rw [seg_len]; exact ho, hB⟩

set_option maxHeartbeats 1000000 in
theorem texts_any (b f n : Nat) (sl : List ByteArray) (w : World) (h : RingAt w b sl f n) :
    Calls Try.prog 48 #[.pointer (some ⟨b, 0, none⟩)] w fun r w' => ∃ v, r = .returned v ∧ Owns w' w.heap.size v (ringL sl f n) ∧ Below w.heap.size w w' := by
  have hc := ring_size h
  have hn := h.2.2.1
  go_enter Try.func48, Try.ntmps48
  go_wp2_with (go_at_call 60; refine (between_any b f n sl 0 n _ h (Nat.zero_le _) hn).mono ?_)
  rintro e w1 ⟨v, rfl, ho, hB⟩
  have e : seg sl f 0 (n - 0) = ringL sl f n := by unfold seg ringL; simp
  rw [e] at ho
  go_wp2_with fail
  go_ret
  exact ⟨_, rfl, ho, hB⟩
end Go.Proofs.Ytfcnhdaefleelaa
