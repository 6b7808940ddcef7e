/- Waits marked, and asked for again. -/
import Derived.Test.YtbkllceceaedpaaStB
import Derived.Test.YtbkllceceaedpaaRwP
import Derived.Test.YtbkllceceaedpaaMark
namespace Go.Proofs.Ytbkllceceaedpaa
open Go.RowKit
set_option linter.unusedVariables false

def wtMk (k : Int) : Wt := ⟨k, k + 1, mk (k + 1 + 1), k + 1 + 1 + 1, k + 1 + 1 + 1 + 1⟩
def wtMarks (k n : Nat) : List Wt := (List.range n).map (fun (i : Nat) => wtMk ((k : Int) + 5 * (i : Int)))
theorem wtMarks_len (k n : Nat) : (wtMarks k n).length = n := by simp [wtMarks]
theorem wtMarks_at {k n i : Nat} (h : i < n) : wtAt (wtMarks k n) i = wtMk ((k : Int) + 5 * (i : Int)) := by
  rw [wtAt_get (by rw [wtMarks_len]; exact h)]; simp [wtMarks]
def wtTo (l : List Wt) (k i : Nat) : List Wt := wtMarks k i ++ l.drop i
theorem wtTo_len {l : List Wt} {k i : Nat} (h : i ≤ l.length) : (wtTo l k i).length = l.length := by simp [wtTo, wtMarks_len]; omega
theorem wtTo_at {l : List Wt} {k i : Nat} (h : i < l.length) : (wtTo l k i)[i]? = some (wtAt l i) := by
  unfold wtTo; rw [List.getElem?_append_right (by rw [wtMarks_len]; exact Nat.le_refl _), wtMarks_len, Nat.sub_self, List.getElem?_drop, Nat.add_zero, wtAt_some h]
theorem wtTo_set {l : List Wt} {k i : Nat} (h : i < l.length) : (wtTo l k i).set i (wtMk ((k : Int) + 5 * (i : Int))) = wtTo l k (i + 1) := by
  unfold wtTo
  rw [List.set_append_right _ _ (by rw [wtMarks_len]; exact Nat.le_refl _), wtMarks_len, Nat.sub_self, List.drop_eq_getElem_cons h, List.set_cons_zero]
  have : wtMarks k (i + 1) = wtMarks k i ++ [wtMk ((k : Int) + 5 * (i : Int))] := by unfold wtMarks; rw [List.range_succ, List.map_append]; rfl
  rw [this, List.append_assoc]; rfl
theorem wtTo_all (l : List Wt) (k : Nat) : wtTo l k l.length = wtMarks k l.length := by simp [wtTo]
set_option maxHeartbeats 8000000 in
theorem markWaitS_any (v : Value) (l : List Wt) (base k : Nat) (w : World) (ho : WtOwns w base v l) (hk : 0 < k) (hk2 : k + 5 * l.length ≤ 8000000) (hlen : l.length ≤ 1048576) :
    Calls Try.prog 28 #[v, .int .i64 (k : Int)] w fun e w' => e = .returned (.int .i64 ((k : Int) + 5 * (l.length : Int))) ∧ WtOwns w' base v (wtMarks k l.length) ∧ w.grownBy w' v.ownBlock := by
  rcases ownsR_form ho with ⟨rfl, ao, cap, rfl⟩ | ⟨h0, g, cap, rfl⟩
  · go_enter Try.func28, Try.ntmps28
    go_wp2_with fail
    refine wp_loop_rounds 1 ?_
    rw [rounds_succ]
    go_wp2_with fail
    go_ret
    exact ⟨ret_int' (by simp), by simpa [wtMarks] using ho, World.grownBy.refl _ _⟩
  · go_enter Try.func28, Try.ntmps28
    go_wp2_with fail
    go_loopw [1, 5] (fun c i wr => ∃ j : Nat, j ≤ l.length ∧ i = .int .i64 j ∧ c = .int .i64 ((k : Int) + 5 * (j : Int)) ∧ Hid (WtOwns wr base (.slice (some ⟨g, 0, none⟩) l.length cap) (wtTo l k j)) ∧ w.grownBy wr (some g)) (fun _ i _ => l.length - (intOf i).toNat)
    case atStart => exact ⟨0, Nat.zero_le _, rfl, by simp, by show WtOwns _ _ _ _; simpa [wtTo, wtMarks] using ho, World.grownBy.refl _ _⟩
    case round =>
      obtain ⟨j, hj, rfl, rfl, HO, hg2⟩ := hrel
      have HL : Hid ((wtTo l k j).length = l.length) := wtTo_len hj
      clear ho
      by_cases hlt : j < l.length
      · have HAT : Hid ((wtTo l k j)[j]? = some (wtAt l j)) := wtTo_at hlt
        have HST : Hid ((wtTo l k j).set j (wtMk ((k : Int) + 5 * (j : Int))) = wtTo l k (j + 1)) := wtTo_set hlt
        have hj1 : (j : Int) < (l.length : Int) := by omega
        have hf0 := row_frozen HO.out HL.out (j * 5)
        have hf1 := row_frozen HO.out HL.out (j * 5 + 1)
        have hd0 : wr.cell? ⟨g, j * 5, none⟩ = some (.int .i64 (wtAt l j).t) := row_at_len wtC_len HO.out HL.out HAT.out 0 _ rfl
        have hd1 : wr.cell? ⟨g, j * 5 + 1, none⟩ = some (.int .i64 (wtAt l j).n) := row_at_len wtC_len HO.out HL.out HAT.out 1 _ rfl
        obtain ⟨K, hK⟩ : ∃ K, (k : Int) + 5 * (j : Int) = K := ⟨_, rfl⟩
        have hK0 : 0 < K := by omega
        have hK1 : K + 5 ≤ 8000000 := by omega
        have HK : Hid ((k : Int) + 5 * (j : Int) = K) := hK
        rw [hK] at HST ⊢
        clear hK
        go_wp2_with fail
        have ho1 := rows_part wtC_len HO.out HL.out j _ ⟨K, K + 1, (wtAt l j).who, (wtAt l j).at_, (wtAt l j).times⟩ HAT.out 0 [.int .i64 K, .int .i64 (K + 1)] (by simp) rfl
        have hg3 := grown_two hg2 (puts_grown (g := g) [.int .i64 K, .int .i64 (K + 1)] wr (j * 5))
        refine (mark_any _ _ (by omega) (by omega)).mono ?_
        rintro e w3 ⟨rfl, hb3⟩
        have ho3 : WtOwns w3 base (.slice (some ⟨g, 0, none⟩) l.length cap) _ := ownsR_kept ho1 hb3
        have hg4 := grown_two hg3 (grown_of_below (r := some g) hb3)
        have HL3 : Hid (((wtTo l k j).set j ⟨K, K + 1, (wtAt l j).who, (wtAt l j).at_, (wtAt l j).times⟩).length = l.length) := by show _ = _; rw [List.length_set]; exact HL.out
        have hat3 := set_at (y := (⟨K, K + 1, (wtAt l j).who, (wtAt l j).at_, (wtAt l j).times⟩ : Wt)) HAT.out
        have he2 := row_frozen ho3 HL3.out (j * 5 + 2)
        have he3 := row_frozen ho3 HL3.out (j * 5 + 3)
        have he4 := row_frozen ho3 HL3.out (j * 5 + 4)
        have hc2 : w3.cell? ⟨g, j * 5 + 2, none⟩ = some (.string (wtAt l j).who) := row_at_len wtC_len ho3 HL3.out hat3 2 _ rfl
        have hc3 : w3.cell? ⟨g, j * 5 + 3, none⟩ = some (.int .i64 (wtAt l j).at_) := row_at_len wtC_len ho3 HL3.out hat3 3 _ rfl
        have hc4 : w3.cell? ⟨g, j * 5 + 4, none⟩ = some (.int .i64 (wtAt l j).times) := row_at_len wtC_len ho3 HL3.out hat3 4 _ rfl
        have ho4 := rows_part wtC_len ho3 HL3.out j _ (wtMk K) hat3 2 [.string (mk (K + 1 + 1)), .int .i64 (K + 1 + 1 + 1), .int .i64 (K + 1 + 1 + 1 + 1)] (by simp) rfl
        rw [List.set_set, HST.out] at ho4
        have HO4 : Hid _ := ho4
        have HG : Hid _ := grown_two hg4 (puts_grown (g := g) [.string (mk (K + 1 + 1)), .int .i64 (K + 1 + 1 + 1), .int .i64 (K + 1 + 1 + 1 + 1)] w3 (j * 5 + 2))
        clear ho1 ho3 ho4 hat3 hb3 hg3 hg4 hd0 hd1 hf0 hf1
        go_wp2_with fail
        go_roundw
        case rel => exact ⟨j + 1, hlt, by go_num, by rw [← HK.out]; go_num, HO4.out, HG.out⟩
        case measure => simp [intOf]; omega
      · obtain rfl : j = l.length := by omega
        have HE : Hid (WtOwns wr base (.slice (some ⟨g, 0, none⟩) l.length cap) (wtMarks k l.length)) := by have := HO.out; rw [wtTo_all] at this; exact this
        go_wp2_with fail
        go_ret
        exact ⟨rfl, HE.out, hg2⟩
theorem wt_heldOn {wr w2 w3 : World} {b o : Nat} {x : Value} (hb : b < wr.heap.size) (h3 : Below w2.heap.size w2 w3) (h : w2.cell? ⟨b, o, none⟩ = some x ∧ Below wr.heap.size wr w2) : w3.cell? ⟨b, o, none⟩ = some x ∧ Below wr.heap.size wr w3 :=
  ⟨(h3.cell (p := ⟨b, o, none⟩) (Nat.lt_of_lt_of_le hb h.2.size)).trans h.1, h.2.trans (h3.mono h.2.size)⟩
set_option maxHeartbeats 4000000 in
theorem heldWaitS_any (v : Value) (n k : Nat) (w : World) (hr : WtReads w v (wtMarks k n)) (hk : 0 < k) (hk2 : k + 5 * n ≤ 8000000) (hlen : n ≤ 1048576) :
    Calls Try.prog 29 #[v, .int .i64 (k : Int)] w fun e w' => e = .returned (.int .i64 ((k : Int) + 5 * (n : Int))) ∧ Below w.heap.size w w' := by
  obtain ⟨ao, cap, rfl⟩ := readsR_shape hr
  rw [wtMarks_len]
  go_enter Try.func29, Try.ntmps29
  go_wp2_with fail
  go_loopw [1, 5] (fun c i wr => ∃ j : Nat, j ≤ n ∧ i = .int .i64 j ∧ c = .int .i64 ((k : Int) + 5 * (j : Int)) ∧ Below w.heap.size w wr) (fun _ i _ => n - (intOf i).toNat)
  case atStart => exact ⟨0, Nat.zero_le _, rfl, by simp, Below.refl _ _⟩
  case round =>
    obtain ⟨j, hj, rfl, rfl, hB⟩ := hrel
    by_cases hlt : j < n
    · obtain ⟨b, off, rfl, hb, _, _, hc⟩ := wt_some hr (by rw [wtMarks_len]; omega)
      have hcl := wt_cells hc hB hb (show j < (wtMarks k n).length by rw [wtMarks_len]; exact hlt)
      rw [wtMarks_at hlt] at hcl
      have HKS : Hid (∀ w', Below wr.heap.size wr w' → _) := fun w' (h : Below wr.heap.size wr w') => wt_cells hc (hB.trans (h.mono hB.size)) hb (show j < (wtMarks k n).length by rw [wtMarks_len]; exact hlt)
      have hlt' : (j : Int) < (n : Int) := by omega
      have hsz := hB.size
      have hbr : b < wr.heap.size := by omega
      obtain ⟨K, hK⟩ : ∃ K, (k : Int) + 5 * (j : Int) = K := ⟨_, rfl⟩
      have hK0 : 0 < K := by omega
      have hK1 : K + 5 ≤ 8000000 := by omega
      have HK : Hid ((k : Int) + 5 * (j : Int) = K) := hK
      rw [hK] at hcl ⊢
      have c0 : wr.cell? ⟨b, off + j * 5, none⟩ = some (.int .i64 K) := hcl.1
      have c1 : wr.cell? ⟨b, off + j * 5 + 1, none⟩ = some (.int .i64 (K + 1)) := hcl.2.1
      have c2 : wr.cell? ⟨b, off + j * 5 + 2, none⟩ = some (.string (mk (K + 1 + 1))) := hcl.2.2.1
      have c3 : wr.cell? ⟨b, off + j * 5 + 3, none⟩ = some (.int .i64 (K + 1 + 1 + 1)) := hcl.2.2.2.1
      have c4 : wr.cell? ⟨b, off + j * 5 + 4, none⟩ = some (.int .i64 (K + 1 + 1 + 1 + 1)) := hcl.2.2.2.2
      have hne := ne_self (mk (K + 1 + 1))
      have hn0 : (K != K) = false := by simp
      have hn1 : (K + 1 != K + 1) = false := by simp
      have hn3 : (K + 1 + 1 + 1 != K + 1 + 1 + 1) = false := by simp
      have hn4 : (K + 1 + 1 + 1 + 1 != K + 1 + 1 + 1 + 1) = false := by simp
      clear hc hcl HKS hK
      go_wp2_with fail
      go_region_held3 (fun w' => w'.cell? ⟨b, off + j * 5 + 2, none⟩ = some (.string (mk (K + 1 + 1))) ∧ Below wr.heap.size wr w') (first | exact ⟨c2, (Below.refl _ _).drew⟩ | assumption | go_keep) (first
        | (go_at_call 63; refine (mark_any _ _ (by omega) (by omega)).mono ?_; rintro e w3 ⟨rfl, hb3⟩; have hk3 := wt_heldOn hbr hb3 ‹_›))
      have hB4 : Below w.heap.size w w3 := hB.trans (hk3.2.mono hsz)
      have d3 := (hk3.2.cell (p := ⟨b, off + j * 5 + 3, none⟩) hbr).trans c3
      have d4 := (hk3.2.cell (p := ⟨b, off + j * 5 + 4, none⟩) hbr).trans c4
      clear hk3 hb3 c0 c1 c2 c3 c4 hB
      go_wp2_with fail
      go_roundw
      case rel => exact ⟨j + 1, hlt, by go_num, by rw [← HK.out]; go_num, hB4⟩
      case measure => simp [intOf]; omega
    · obtain rfl : j = n := by omega
      go_wp2_with fail
      go_ret
      exact ⟨rfl, hB⟩
end Go.Proofs.Ytbkllceceaedpaa
