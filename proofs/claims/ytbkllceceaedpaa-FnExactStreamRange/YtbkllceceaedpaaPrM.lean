/- Marks in slices of Pair: written by the laws, and asked for again. -/
import Derived.Test.YtbkllceceaedpaaPrG
import Derived.Test.YtbkllceceaedpaaMkT
namespace Go.Proofs.Ytbkllceceaedpaa
open Go.RowKit

def prMk (k : Int) : ByteArray × ByteArray := (mk k, mk (k + 1))
/-- n marks from k on -/
def prMarks (k n : Nat) : List (ByteArray × ByteArray) := (List.range n).map fun (i : Nat) => prMk ((k : Int) + 2 * (i : Int))
theorem prMarks_len (k n : Nat) : (prMarks k n).length = n := by simp [prMarks]
theorem prMarks_at {k n i : Nat} (h : i < n) : prAt (prMarks k n) i = prMk ((k : Int) + 2 * (i : Int)) := by
  rw [prAt_get (by rw [prMarks_len]; exact h)]; simp [prMarks]
def prMarkedTo (l : List (ByteArray × ByteArray)) (k i : Nat) : List (ByteArray × ByteArray) := prMarks k i ++ l.drop i
theorem prMarkedTo_len {l : List (ByteArray × ByteArray)} {k i : Nat} (h : i ≤ l.length) : (prMarkedTo l k i).length = l.length := by simp [prMarkedTo, prMarks_len]; omega
theorem prMarkedTo_at {l : List (ByteArray × ByteArray)} {k i : Nat} (h : i < l.length) : (prMarkedTo l k i)[i]? = some (prAt l i) := by
  unfold prMarkedTo
  rw [List.getElem?_append_right (by rw [prMarks_len]; exact Nat.le_refl _), prMarks_len, Nat.sub_self, List.getElem?_drop, Nat.add_zero, prAt_some h]
theorem prMarkedTo_set {l : List (ByteArray × ByteArray)} {k i : Nat} (h : i < l.length) : (prMarkedTo l k i).set i (prMk ((k : Int) + 2 * (i : Int))) = prMarkedTo l k (i + 1) := by
  unfold prMarkedTo
  rw [List.set_append_right _ _ (by rw [prMarks_len]; exact Nat.le_refl _), prMarks_len, Nat.sub_self, List.drop_eq_getElem_cons h, List.set_cons_zero]
  have : prMarks k (i + 1) = prMarks k i ++ [prMk ((k : Int) + 2 * (i : Int))] := by unfold prMarks; rw [List.range_succ, List.map_append]; rfl
  rw [this, List.append_assoc]; rfl
theorem prMarkedTo_all (l : List (ByteArray × ByteArray)) (k : Nat) : prMarkedTo l k l.length = prMarks k l.length := by simp [prMarkedTo]

set_option maxHeartbeats 4000000 in
theorem markPairS_any (v : Value) (l : List (ByteArray × ByteArray)) (base k : Nat) (w : World) (ho : PrOwns w base v l) (hk : 0 < k) (hk2 : k ≤ 6000000) (hlen : l.length ≤ 1048576) :
    Calls Try.prog 53 #[v, .int .i64 (k : Int)] w fun e w' => e = .returned (.int .i64 ((k : Int) + 2 * (l.length : Int))) ∧ PrOwns w' base v (prMarks k l.length) ∧ w.grownBy w' v.ownBlock := by
  rcases ownsR_form ho with ⟨rfl, ao, cap, rfl⟩ | ⟨h0, g, cap, rfl⟩
  · go_enter Try.func53, Try.ntmps53
    go_wp2_with fail
    refine wp_loop_rounds 1 ?_
    rw [rounds_succ]
    go_wp2_with fail
    go_ret
    exact ⟨ret_int' (by simp), ho, World.grownBy.refl _ _⟩
  · go_enter Try.func53, Try.ntmps53
    go_wp2_with fail
    go_loopw [1, 5] (fun c i wr => ∃ j : Nat, j ≤ l.length ∧ i = .int .i64 j ∧ c = .int .i64 ((k : Int) + 2 * (j : Int)) ∧ PrOwns wr base (.slice (some ⟨g, 0, none⟩) l.length cap) (prMarkedTo l k j) ∧ w.grownBy wr (some g)) (fun _ i _ => l.length - (intOf i).toNat)
    case atStart => exact ⟨0, Nat.zero_le _, rfl, by simp, by simpa [prMarkedTo, prMarks] using ho, World.grownBy.refl _ _⟩
    case round =>
      obtain ⟨j, hj, rfl, rfl, ho2, hg2⟩ := hrel
      have HL : Hid ((prMarkedTo l k j).length = l.length) := prMarkedTo_len hj
      clear ho
      by_cases hlt : j < l.length
      · have HO : Hid (PrOwns wr base (.slice (some ⟨g, 0, none⟩) l.length cap) (prMarkedTo l k j)) := ho2
        have hj1 : (j : Int) < (l.length : Int) := by omega
        clear ho2
        go_wp2_with fail
        refine (mark_any _ _ (by omega) (by omega)).mono ?_
        rintro e w3 ⟨rfl, hb3⟩
        have ho3 := ownsR_kept HO.out hb3
        rw [← HL.out] at ho3
        have hf0 := World.ownsRow.frozenAt ho3 (j * 2)
        have hf1 := World.ownsRow.frozenAt ho3 (j * 2 + 1)
        have hd0 : w3.cell? ⟨g, j * 2, none⟩ = _ := cellR prC_len ho3 (prMarkedTo_at hlt) 0 _ rfl
        have hd1 : w3.cell? ⟨g, j * 2 + 1, none⟩ = _ := cellR prC_len ho3 (prMarkedTo_at hlt) 1 _ rfl
        have hg3 := grown_two hg2 (grown_of_below (r := some g) hb3)
        have HO3 : Hid (PrOwns w3 base (.slice (some ⟨g, 0, none⟩) (prMarkedTo l k j).length cap) (prMarkedTo l k j)) := ho3
        clear ho3 hb3 HO hg2
        go_wp2_with fail
        have hst0 := ownsR_stored prC_len HO3.out j 0 (prAt l j) (mk ((k : Int) + 2 * (j : Int)), (prAt l j).2) (.string (mk ((k : Int) + 2 * (j : Int)))) (prMarkedTo_at hlt) (by omega) rfl
        rw [Nat.add_zero] at hst0
        refine (mark_any _ _ (by omega) (by omega)).mono ?_
        rintro e w4 ⟨rfl, hb4⟩
        have ho4 := ownsR_kept hst0.1 hb4
        have hg4 := grown_two (grown_two hg3 hst0.2) (grown_of_below (r := some g) hb4)
        have hl4 : ((prMarkedTo l k j).set j (mk ((k : Int) + 2 * (j : Int)), (prAt l j).2)).length = (prMarkedTo l k j).length := List.length_set
        rw [← hl4] at ho4
        have hat4 := set_at (y := (mk ((k : Int) + 2 * (j : Int)), (prAt l j).2)) (prMarkedTo_at (k := k) hlt)
        have he1 := World.ownsRow.frozenAt ho4 (j * 2 + 1)
        have hd4 : w4.cell? ⟨g, j * 2 + 1, none⟩ = _ := cellR prC_len ho4 hat4 1 _ rfl
        have hst := ownsR_stored prC_len ho4 j 1 _ (prMk ((k : Int) + 2 * (j : Int))) (.string (mk ((k : Int) + 2 * (j : Int) + 1))) hat4 (by omega) rfl
        rw [List.set_set, prMarkedTo_set hlt, hl4, HL.out] at hst
        have HST : Hid _ := hst
        clear hst hat4 ho4 hl4 hst0 hb4 hd0 hd1 hf0 hf1 HO3 hg3
        go_wp2_with fail
        go_roundw
        case rel => exact ⟨j + 1, hlt, by go_num, by go_num, HST.out.1, grown_two hg4 HST.out.2⟩
        case measure => simp [intOf]; omega
      · obtain rfl : j = l.length := by omega
        rw [prMarkedTo_all] at ho2
        go_wp2_with fail
        go_ret
        exact ⟨rfl, ho2, hg2⟩

theorem pr_heldOn {wr w2 w3 : World} {b o : Nat} {x : Value} (hb : b < wr.heap.size) (h3 : Below w2.heap.size w2 w3) (h : w2.cell? ⟨b, o, none⟩ = some x ∧ Below wr.heap.size wr w2) : w3.cell? ⟨b, o, none⟩ = some x ∧ Below wr.heap.size wr w3 :=
  ⟨(h3.cell (p := ⟨b, o, none⟩) (Nat.lt_of_lt_of_le hb h.2.size)).trans h.1, h.2.trans (h3.mono h.2.size)⟩

set_option maxHeartbeats 4000000 in
theorem heldPairS_any (v : Value) (n k : Nat) (w : World) (hr : PrReads w v (prMarks k n)) (hk : 0 < k) (hk2 : k ≤ 6000000) (hlen : n ≤ 1048576) :
    Calls Try.prog 54 #[v, .int .i64 (k : Int)] w fun e w' => e = .returned (.int .i64 ((k : Int) + 2 * (n : Int))) ∧ Below w.heap.size w w' := by
  obtain ⟨ao, cap, rfl⟩ := readsR_shape hr
  rw [prMarks_len]
  go_enter Try.func54, Try.ntmps54
  go_wp2_with fail
  go_loopw [1, 5] (fun c i wr => ∃ j : Nat, j ≤ n ∧ i = .int .i64 j ∧ c = .int .i64 ((k : Int) + 2 * (j : Int)) ∧ Below w.heap.size w wr) (fun _ i _ => n - (intOf i).toNat)
  case atStart => exact ⟨0, Nat.zero_le _, rfl, by simp, Below.refl _ _⟩
  case round =>
    obtain ⟨j, hj, rfl, rfl, hB⟩ := hrel
    by_cases hlt : j < n
    · obtain ⟨b, off, rfl, hb, _, _, hc⟩ := pr_some hr (by rw [prMarks_len]; omega)
      have hcl := pr_cell_kept (pr_cells hc (show j < (prMarks k n).length by rw [prMarks_len]; exact hlt)) hB hb
      rw [prMarks_at hlt] at hcl
      have hc0 : wr.cell? ⟨b, off + j * 2, none⟩ = some (.string (mk ((k : Int) + 2 * (j : Int)))) := hcl.1
      have hc1 : wr.cell? ⟨b, off + j * 2 + 1, none⟩ = some (.string (mk ((k : Int) + 2 * (j : Int) + 1))) := hcl.2
      have hlt' : (j : Int) < (n : Int) := by omega
      have hsz := hB.size
      have hbr : b < wr.heap.size := by omega
      have hne := ne_self (mk ((k : Int) + 2 * (j : Int)))
      have hne2 := ne_self (mk ((k : Int) + 2 * (j : Int) + 1))
      clear hc hcl
      go_wp2_with fail
      go_region_held3 (fun w' => w'.cell? ⟨b, off + j * 2, none⟩ = some (.string (mk ((k : Int) + 2 * (j : Int)))) ∧ Below wr.heap.size wr w') (first | exact ⟨hc0, (Below.refl _ _).drew⟩ | assumption | go_keep) (first
        | (go_at_call 63; refine (mark_any _ _ (by omega) (by omega)).mono ?_; rintro e w3 ⟨rfl, hb3⟩; have hk3 := pr_heldOn hbr hb3 ‹_›))
      have hB4 : Below w.heap.size w w3 := hB.trans (hk3.2.mono hsz)
      have hd1 := (hk3.2.cell (p := ⟨b, off + j * 2 + 1, none⟩) hbr).trans hc1
      have hsz3 := hk3.2.size
      clear hk3 hb3 hc0 hc1
      go_wp2_with fail
      have hbr3 : b < w3.heap.size := by omega
      go_region_held3 (fun w' => w'.cell? ⟨b, off + j * 2 + 1, none⟩ = some (.string (mk ((k : Int) + 2 * (j : Int) + 1))) ∧ Below w3.heap.size w3 w') (first | exact ⟨hd1, (Below.refl _ _).drew⟩ | assumption | go_keep) (first
        | (go_at_call 63; refine (mark_any _ _ (by omega) (by omega)).mono ?_; rintro e w5 ⟨rfl, hb5⟩; have hk5 := pr_heldOn hbr3 hb5 ‹_›))
      have hB5 : Below w.heap.size w w5 := hB4.trans (hk5.2.mono hB4.size)
      clear hk5 hb5 hd1 hB4
      go_wp2_with fail
      go_roundw
      case rel => exact ⟨j + 1, hlt, by go_num, by go_num, hB5⟩
      case measure => simp [intOf]; omega
    · obtain rfl : j = n := by omega
      go_wp2_with fail
      go_ret
      exact ⟨rfl, hB⟩

theorem markPair_own (v : Value) (l : List (ByteArray × ByteArray)) (lo hi : Nat) (k : Int) (w : World) (ho : PrOwn w lo hi v l) (hk : 0 < k) (hk2 : k ≤ 6000000) (hlen : l.length ≤ 1048576) :
    Calls Try.prog 53 #[v, .int .i64 k] w fun e w' => e = .returned (.int .i64 (k + 2 * (l.length : Int))) ∧ PrOwn w' lo hi v (prMarks k.toNat l.length) ∧ w.grownBy w' v.ownBlock := by
  obtain ⟨K, rfl⟩ := Int.eq_ofNat_of_zero_le (show 0 ≤ k by omega)
  exact (markPairS_any v l lo K w ho.1 (by omega) (by omega) hlen).mono fun _ _ ⟨h, ho2, hg⟩ => ⟨h, ⟨ho2, ho.2⟩, hg⟩
theorem heldPair_own (v : Value) (n lo hi : Nat) (w : World) (ho : PrOwn w lo hi v (prMarks 1 n)) (hlen : n ≤ 1048576) :
    Calls Try.prog 54 #[v, .int .i64 1] w fun e w' => e = .returned (.int .i64 (1 + 2 * (n : Int))) ∧ Below w.heap.size w w' :=
  heldPairS_any v n 1 w (ownR_reads prC_len ho) (by omega) (by omega) hlen
end Go.Proofs.Ytbkllceceaedpaa
