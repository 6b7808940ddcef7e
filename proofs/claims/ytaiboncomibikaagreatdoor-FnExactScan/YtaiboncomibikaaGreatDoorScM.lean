/- Marks in slices of Score: written by the laws, and asked for again. -/
import Derived.Test.YtaiboncomibikaaGreatDoorScG
import Derived.Test.YtaiboncomibikaaGreatDoorMkT
namespace Go.Proofs.YtaiboncomibikaaGreatDoor
open Go.RowKit

def scMk (k : Int) : ByteArray × Int := (mk k, k + 1)
/-- n marks from k on -/
def scMarks (k n : Nat) : List (ByteArray × Int) := (List.range n).map fun (i : Nat) => scMk ((k : Int) + 2 * (i : Int))
theorem scMarks_len (k n : Nat) : (scMarks k n).length = n := by simp [scMarks]
theorem scMarks_at {k n i : Nat} (h : i < n) : scAt (scMarks k n) i = scMk ((k : Int) + 2 * (i : Int)) := by
  rw [scAt_get (by rw [scMarks_len]; exact h)]; simp [scMarks]
def scMarkedTo (l : List (ByteArray × Int)) (k i : Nat) : List (ByteArray × Int) := scMarks k i ++ l.drop i
theorem scMarkedTo_len {l : List (ByteArray × Int)} {k i : Nat} (h : i ≤ l.length) : (scMarkedTo l k i).length = l.length := by simp [scMarkedTo, scMarks_len]; omega
theorem scMarkedTo_at {l : List (ByteArray × Int)} {k i : Nat} (h : i < l.length) : (scMarkedTo l k i)[i]? = some (scAt l i) := by
  unfold scMarkedTo
  rw [List.getElem?_append_right (by rw [scMarks_len]; exact Nat.le_refl _), scMarks_len, Nat.sub_self, List.getElem?_drop, Nat.add_zero, scAt_some h]
theorem scMarkedTo_set {l : List (ByteArray × Int)} {k i : Nat} (h : i < l.length) : (scMarkedTo l k i).set i (scMk ((k : Int) + 2 * (i : Int))) = scMarkedTo l k (i + 1) := by
  unfold scMarkedTo
  rw [List.set_append_right _ _ (by rw [scMarks_len]; exact Nat.le_refl _), scMarks_len, Nat.sub_self, List.drop_eq_getElem_cons h, List.set_cons_zero]
  have : scMarks k (i + 1) = scMarks k i ++ [scMk ((k : Int) + 2 * (i : Int))] := by unfold scMarks; rw [List.range_succ, List.map_append]; rfl
  rw [this, List.append_assoc]; rfl
theorem scMarkedTo_all (l : List (ByteArray × Int)) (k : Nat) : scMarkedTo l k l.length = scMarks k l.length := by simp [scMarkedTo]

set_option maxHeartbeats 4000000 in
theorem markScoreS_any (v : Value) (l : List (ByteArray × Int)) (base k : Nat) (w : World) (ho : ScOwns w base v l) (hk : 0 < k) (hk2 : k ≤ 6000000) (hlen : l.length ≤ 1048576) :
    Calls Tryz.prog 31 #[v, .int .i64 (k : Int)] w fun e w' => e = .returned (.int .i64 ((k : Int) + 2 * (l.length : Int))) ∧ ScOwns w' base v (scMarks k l.length) ∧ w.grownBy w' v.ownBlock := by
  rcases ownsR_form ho with ⟨rfl, ao, cap, rfl⟩ | ⟨h0, g, cap, rfl⟩
  · go_enter Tryz.func31, Tryz.ntmps31
    go_wp2_with fail
    refine wp_loop_rounds 1 ?_
    rw [rounds_succ]
    go_wp2_with fail
    go_ret
    exact ⟨ret_int' (by simp), ho, World.grownBy.refl _ _⟩
  · go_enter Tryz.func31, Tryz.ntmps31
    go_wp2_with fail
    go_loopw [1, 5] (fun c i wr => ∃ j : Nat, j ≤ l.length ∧ i = .int .i64 j ∧ c = .int .i64 ((k : Int) + 2 * (j : Int)) ∧ ScOwns wr base (.slice (some ⟨g, 0, none⟩) l.length cap) (scMarkedTo l k j) ∧ w.grownBy wr (some g)) (fun _ i _ => l.length - (intOf i).toNat)
    case atStart => exact ⟨0, Nat.zero_le _, rfl, by simp, by simpa [scMarkedTo, scMarks] using ho, World.grownBy.refl _ _⟩
    case round =>
      obtain ⟨j, hj, rfl, rfl, ho2, hg2⟩ := hrel
      have HL : Hid ((scMarkedTo l k j).length = l.length) := scMarkedTo_len hj
      clear ho
      by_cases hlt : j < l.length
      · have HO : Hid (ScOwns wr base (.slice (some ⟨g, 0, none⟩) l.length cap) (scMarkedTo l k j)) := ho2
        have hj1 : (j : Int) < (l.length : Int) := by omega
        clear ho2
        go_wp2_with fail
        refine (mark_any _ _ (by omega) (by omega)).mono ?_
        rintro e w3 ⟨rfl, hb3⟩
        have ho3 := ownsR_kept HO.out hb3
        rw [← HL.out] at ho3
        have hf0 := World.ownsRow.frozenAt ho3 (j * 2)
        have hf1 := World.ownsRow.frozenAt ho3 (j * 2 + 1)
        have hd0 : w3.cell? ⟨g, j * 2, none⟩ = _ := cellR scC_len ho3 (scMarkedTo_at hlt) 0 _ rfl
        have hd1 : w3.cell? ⟨g, j * 2 + 1, none⟩ = _ := cellR scC_len ho3 (scMarkedTo_at hlt) 1 _ rfl
        have hg3 := grown_two hg2 (grown_of_below (r := some g) hb3)
        have HO3 : Hid (ScOwns w3 base (.slice (some ⟨g, 0, none⟩) (scMarkedTo l k j).length cap) (scMarkedTo l k j)) := ho3
        clear ho3 hb3 HO hg2
        go_wp2_with fail
        have hst := ownsR_store2 scC_len HO3.out j (scAt l j) (scMk ((k : Int) + 2 * (j : Int))) (.string (mk ((k : Int) + 2 * (j : Int)))) (.int .i64 ((k : Int) + 2 * (j : Int) + 1)) (scMarkedTo_at hlt) rfl
        rw [scMarkedTo_set hlt, HL.out] at hst
        go_roundw
        case rel => exact ⟨j + 1, hlt, by go_num, by go_num, hst.1, grown_two hg3 hst.2⟩
        case measure => simp [intOf]; omega
      · obtain rfl : j = l.length := by omega
        rw [scMarkedTo_all] at ho2
        go_wp2_with fail
        go_ret
        exact ⟨rfl, ho2, hg2⟩

theorem sc_heldOn {wr w2 w3 : World} {b o : Nat} {x : Value} (hb : b < wr.heap.size) (h3 : Below w2.heap.size w2 w3) (h : w2.cell? ⟨b, o, none⟩ = some x ∧ Below wr.heap.size wr w2) : w3.cell? ⟨b, o, none⟩ = some x ∧ Below wr.heap.size wr w3 :=
  ⟨(h3.cell (p := ⟨b, o, none⟩) (Nat.lt_of_lt_of_le hb h.2.size)).trans h.1, h.2.trans (h3.mono h.2.size)⟩

theorem markScore_own (v : Value) (l : List (ByteArray × Int)) (lo hi : Nat) (k : Int) (w : World) (ho : ScOwn w lo hi v l) (hk : 0 < k) (hk2 : k ≤ 6000000) (hlen : l.length ≤ 1048576) :
    Calls Tryz.prog 31 #[v, .int .i64 k] w fun e w' => e = .returned (.int .i64 (k + 2 * (l.length : Int))) ∧ ScOwn w' lo hi v (scMarks k.toNat l.length) ∧ w.grownBy w' v.ownBlock := by
  obtain ⟨K, rfl⟩ := Int.eq_ofNat_of_zero_le (show 0 ≤ k by omega)
  exact (markScoreS_any v l lo K w ho.1 (by omega) (by omega) hlen).mono fun _ _ ⟨h, ho2, hg⟩ => ⟨h, ⟨ho2, ho.2⟩, hg⟩
end Go.Proofs.YtaiboncomibikaaGreatDoor
