/- slices.Insert of one row of Score into a row of one's own. -/
import Derived.Test.YtndegickekjkjaaScDe
import Derived.Test.YtndegickekjkjaaCp
import Derived.Test.YtndegickekjkjaaAp
import Derived.Test.YtndegickekjkjaaTk
namespace Go.Proofs.Ytndegickekjkjaa
open Go.RowKit

theorem scSz : ∀ w, (Go.sizeOf 36).run Try.prog w = .ok 2 w := by
  obtain ⟨i0, hi0, hz0, hz1, hz2⟩ := info_parts scInfo
  intro w; simp [Go.sizeOf, typeInfo, hi0, hz1]
set_option maxHeartbeats 8000000 in
set_option maxRecDepth 100000 in
/-- behind the last one -/
theorem scInsert_end (x : Value) (l : List (ByteArray × Int)) (y : (ByteArray × Int)) (vb base : Nat) (w : World) (ho : ScOwns w base x l) (hv : w.heap[vb]? = some (.cells (scC y).toArray 36 (0, 0))) (hbase : base ≤ w.heap.size) (hlen : l.length ≤ 1048576) :
    Calls Try.prog 39 #[x, .int .i64 (l.length : Int), .slice (some ⟨vb, 0, none⟩) 1 1] w fun e w' => ∃ x', e = .returned x' ∧ ScOwns w' base x' (l ++ [y]) ∧ w.grownBy w' x.ownBlock := by
  obtain ⟨i0, hi0, hz0, hz1, hz2⟩ := info_parts scInfo
  have HO : Hid (w.ownsRow base 36 2 x l.length (l.flatMap scC)) := ho
  have hsrc : ∀ j u, (scC y)[j]? = some u → w.cell? ((⟨vb, 0, none⟩ : Addr).add j) = some u := fun j u hu => by
    rw [Addr.add_mid, cell_of_row w vb _ _ _ _ hv]; simpa using hu
  have HS : Hid (∀ j u, (scC y)[j]? = some u → w.cell? ((⟨vb, 0, none⟩ : Addr).add j) = some u) := hsrc
  have HC : Hid ((scC y).length = 1 * 2) := by show _ = _; rw [scC_len]
  have H1 : Hid (∀ u ∈ scC y, u.oneCell' = true) := scC_one y
  clear hv hsrc
  have hform : (x = .slice none 0 0 ∧ l.length = 0) ∨ ∃ g cap, x = .slice (some ⟨g, 0, none⟩) l.length cap ∧ l.length ≤ cap ∧ cap ≤ maxLen := by
    rcases ho.2 with ⟨h, hn⟩ | ⟨g, cap, cur, hv, _, _, hnc, hcm, _⟩
    · exact .inl ⟨h, hn⟩
    · exact .inr ⟨g, cap, hv, hnc, hcm⟩
  clear ho
  rcases hform with ⟨rfl, h0⟩ | ⟨g, cap, rfl, hnc, hcm⟩
  · obtain rfl : l = [] := List.length_eq_zero_iff.1 h0
    have HO2 : Hid (w.ownsRow base 36 2 (.slice none 0 0) 0 []) := HO.out
    go_enter Try.func39, Try.ntmps39
    go_wp2_with (at_builtin; refine wpList_append_own _ rfl (.tmp 23) (.tmp 24) 24 rfl base 36 i0 _ 2 24 Try.underlying24 hi0 hz0 hz1 hz2 rfl (by decide) _ _ _ rfl HO2.out ⟨vb, 0, none⟩ 1 1 (scC y) rfl HC.out HS.out H1.out (by unfold maxLen; omega) (by omega) hbase ?_)
    intro v' w1 hown hgrow _
    have ho1 : ScOwns w1 base v' ([] ++ [y]) := by unfold ScOwns OwnsR; simpa using hown
    clear hown
    go_wp2_with fail
    go_ret
    exact ⟨_, rfl, ho1, hgrow⟩
  · unfold maxLen at hcm
    go_enter Try.func39, Try.ntmps39
    go_wp2_with (at_builtin; refine wpList_append_own _ rfl (.tmp 23) (.tmp 24) 24 rfl base 36 i0 _ 2 24 Try.underlying24 hi0 hz0 hz1 hz2 rfl (by decide) _ _ _ rfl HO.out ⟨vb, 0, none⟩ 1 1 (scC y) rfl HC.out HS.out H1.out (by unfold maxLen; omega) (by omega) hbase ?_)
    all_goals
      intro v' w1 hown hgrow _
      have ho1 : ScOwns w1 base v' (l ++ [y]) := by unfold ScOwns OwnsR; rw [List.length_append, List.flatMap_append]; simpa using hown
      clear hown
      go_wp2_with fail
      go_ret
      exact ⟨_, rfl, ho1, hgrow⟩
set_option maxHeartbeats 8000000 in
set_option maxRecDepth 100000 in
/-- ahead of another one, where there is room -/
theorem scInsert_room (g cap i : Nat) (l : List (ByteArray × Int)) (y : (ByteArray × Int)) (vb base : Nat) (w : World) (ho : ScOwns w base (.slice (some ⟨g, 0, none⟩) l.length cap) l) (hv : w.heap[vb]? = some (.cells (scC y).toArray 36 (0, 0))) (hap : g ≠ vb) (hi : i < l.length) (hroom : l.length + 1 ≤ cap) (hlen : l.length ≤ 1048576) :
    Calls Try.prog 39 #[.slice (some ⟨g, 0, none⟩) l.length cap, .int .i64 (i : Int), .slice (some ⟨vb, 0, none⟩) 1 1] w fun e w' => e = .returned (.slice (some ⟨g, 0, none⟩) (l.length + 1) cap) ∧ ScOwns w' base (.slice (some ⟨g, 0, none⟩) (l.length + 1) cap) (l.take i ++ y :: l.drop i) ∧ w.grownBy w' (some g) := by
  obtain ⟨i0, hi0, hz0, hz1, hz2⟩ := info_parts scInfo
  obtain ⟨cur, hbg, hg, hcm, hcs, ht⟩ : ∃ cur : Array Value, base ≤ g ∧ w.heap[g]? = some (.cells cur 36 (0, 0)) ∧ cap ≤ maxLen ∧ cur.size = cap * 2 ∧ cur.toList.take (l.length * 2) = l.flatMap scC := by
    rcases ho.2 with ⟨h, _⟩ | ⟨g', cap', cur', hv, hbg, hg, hnc, hcm, hcs, ht⟩
    · cases h
    · simp only [Value.slice.injEq, Option.some.injEq, Addr.mk.injEq, and_true, true_and] at hv
      obtain ⟨rfl, rfl⟩ := hv
      exact ⟨cur', hbg, hg, hcm, hcs, ht⟩
  unfold maxLen at hcm
  have hlc : cur.toList.length = cap * 2 := by simpa using hcs
  have hX : (cur.toList.take (i * 2)) = (l.take i).flatMap scC := by
    rw [← flat_take scC_len, ← ht, List.take_take, Nat.min_eq_left (Nat.mul_le_mul_right 2 (by omega))]
  have hZl : ((l.drop i).flatMap scC).length = (l.length - i) * 2 := by rw [flat_len scC_len]; simp
  have hZs : ∀ j u, ((l.drop i).flatMap scC)[j]? = some u → w.drew.cell? ((⟨g, i * 2, none⟩ : Addr).add j) = some u := fun j u hu => by
    rw [Addr.add_mid]
    rw [← flat_drop scC_len, List.getElem?_drop] at hu
    have hlt := (List.getElem?_eq_some_iff.1 hu).1
    rw [flat_len scC_len] at hlt
    rw [World.ownsRow.cellAt (World.ownsRow.drew ho) _ hlt]; exact hu
  obtain ⟨W1, hW1⟩ : ∃ W1, W1 = w.drew.setRow g (splice cur.toList ((i + 1) * 2) ((l.drop i).flatMap scC)).toArray := ⟨_, rfl⟩
  have hg1 : W1.heap[g]? = some (.cells (splice cur.toList ((i + 1) * 2) ((l.drop i).flatMap scC)).toArray 36 (0, 0)) := by rw [hW1]; exact heap_setRowR (w := w.drew) hg
  have hgr1 : w.grownBy W1 (some g) := by rw [hW1]; exact ⟨rfl, rfl, rfl, (grown_setRow (w := w.drew) _).size, fun k hk hne => (grown_setRow (w := w.drew) _).block k hk hne⟩
  have hvl : vb < w.heap.size := (Array.getElem?_eq_some_iff.1 hv).1
  have hv1 : W1.heap[vb]? = some (.cells (scC y).toArray 36 (0, 0)) := (hgr1.block vb hvl (by simpa using fun e => hap e.symm)).trans hv
  have hYs : ∀ j u, (scC y)[j]? = some u → W1.cell? ((⟨vb, 0, none⟩ : Addr).add j) = some u := fun j u hu => by
    rw [Addr.add_mid, cell_of_row W1 vb _ _ _ _ hv1]; simpa using hu
  obtain ⟨W2, hW2⟩ : ∃ W2, W2 = W1.setRow g (splice (splice cur.toList ((i + 1) * 2) ((l.drop i).flatMap scC)).toArray.toList (i * 2) (scC y)).toArray := ⟨_, rfl⟩
  have hspl : splice (splice cur.toList ((i + 1) * 2) ((l.drop i).flatMap scC)).toArray.toList (i * 2) (scC y) = (l.take i ++ y :: l.drop i).flatMap scC ++ cur.toList.drop (i * 2 + 2 + ((l.drop i).flatMap scC).length) := by
    rw [List.toList_toArray, show (i + 1) * 2 = i * 2 + 2 by omega, splice_room cur.toList _ (scC y) ((l.drop i).flatMap scC) (i * 2) 2 (by omega) hX (scC_len y) (by rw [hZl, hlc]; omega), ins_flat]
  have hg2 : W2.heap[g]? = some (.cells ((l.take i ++ y :: l.drop i).flatMap scC ++ cur.toList.drop (i * 2 + 2 + ((l.drop i).flatMap scC).length)).toArray 36 (0, 0)) := by
    rw [hW2, hspl]; exact heap_setRowR hg1
  have hgr2 : w.grownBy W2 (some g) := grown_two hgr1 (by rw [hW2]; exact grown_setRow _)
  have hL : (l.take i ++ y :: l.drop i).length = l.length + 1 := ins_len l i y (by omega)
  have hfin := own_made (base := base) (cap := cap) scC_len _ hg2 hbg (by omega) (by unfold maxLen; omega) (by rw [List.length_drop, hlc, hZl, hL]; omega)
  rw [hL] at hfin
  have HFIN : Hid (ScOwns W2 base (.slice (some ⟨g, 0, none⟩) (l.length + 1) cap) (l.take i ++ y :: l.drop i)) := hfin
  have HGR : Hid (w.grownBy W2 (some g)) := hgr2
  have HW1 : Hid (W1 = w.drew.setRow g (splice cur.toList ((i + 1) * 2) ((l.drop i).flatMap scC)).toArray) := hW1
  have HW2 : Hid (W2 = W1.setRow g (splice (splice cur.toList ((i + 1) * 2) ((l.drop i).flatMap scC)).toArray.toList (i * 2) (scC y)).toArray) := hW2
  have HG : Hid (w.drew.heap[g]? = some (.cells cur 36 (0, 0))) := hg
  have HG1 : Hid (W1.heap[g]? = some (.cells (splice cur.toList ((i + 1) * 2) ((l.drop i).flatMap scC)).toArray 36 (0, 0))) := hg1
  have HZL : Hid (((l.drop i).flatMap scC).length = (l.length - i) * 2) := hZl
  have HZS : Hid (∀ j u, ((l.drop i).flatMap scC)[j]? = some u → w.drew.cell? ((⟨g, i * 2, none⟩ : Addr).add j) = some u) := hZs
  have HZ1 : Hid (∀ u ∈ (l.drop i).flatMap scC, u.oneCell' = true) := flat_one scC_one _
  have HYS : Hid (∀ j u, (scC y)[j]? = some u → W1.cell? ((⟨vb, 0, none⟩ : Addr).add j) = some u) := hYs
  have HYL : Hid ((scC y).length = 1 * 2) := by show _ = _; rw [scC_len]
  have HY1 : Hid (∀ u ∈ scC y, u.oneCell' = true) := scC_one y
  have HF1 : Hid ((i + 1) * 2 + ((l.drop i).flatMap scC).length ≤ cur.size) := by show _ ≤ _; rw [hZl, hcs]; omega
  have HF2 : Hid (i * 2 + (scC y).length ≤ (splice cur.toList ((i + 1) * 2) ((l.drop i).flatMap scC)).toArray.size) := by
    show _ ≤ _; rw [List.size_toArray, length_splice _ _ _ (by rw [hZl, hlc]; omega), scC_len, hlc]; omega
  have hov : ∀ lb cb, (callFunc 49 #[.slice (some ⟨vb, 0, none⟩) 1 1, .slice (some ⟨g, (i + 1) * 2, none⟩) lb cb]).run Try.prog w = .ok (.value (.bool false)) w := fun lb cb => by
    rw [run_callFunc_extern Try.func49 (by kernel_rfl) (by kernel_rfl) (by kernel_rfl) (e := Extern.SlicesOverlaps.overlaps #[24, 24] #[4]) (by kernel_rfl),
      Lib.run_overlaps_apart w 24 4 36 Try.underlying24 2 scSz ⟨vb, 0, none⟩ ⟨g, (i + 1) * 2, none⟩ 1 1 lb cb (fun e => hap e.symm) 36 36 2 (cap * 2) (by simp [World.shape?, hv, scC_len]) (by simp [World.shape?, hg, hcs]) (by omega) (by simp [World.frozen?, hv]) (by simp [World.frozen?, hv])]
    rfl
  have hcp0 := fun (dc : Nat) => run_copy_N (P := Try.prog) W1 24 24 3 36 2 g (i * 2) (l.length + 1 - i) dc ⟨vb, 0, none⟩ 1 1 1 _ 36 (scC y) Try.underlying24 i0 hi0 hz1 hg1 (Nat.min_eq_left (by omega)) HYL.out hYs HF2.out HY1.out
  rw [← hW2] at hcp0
  have HCP : Hid (∀ dc : Nat, (Builtin.copy_ #[24, 24] 3 #[.slice (some ⟨g, i * 2, none⟩) (l.length + 1 - i) dc, .slice (some ⟨vb, 0, none⟩) 1 1]).run Try.prog W1 = .ok (goInt 1) W2) := hcp0
  clear hcp0
  clear hg1 hg2 hgr1 hgr2 hfin hspl hW1 hW2 hYs hv1 hZs hZl hX hlc hcs ht hg ho hv
  have hp1 : ¬ ((i : Int) = (l.length : Int)) := by omega
  have hp2 : (i : Int) ≤ (l.length : Int) := by omega
  have hp3 : (l.length : Int) + 1 ≤ (cap : Int) := by omega
  have hp4 : (i : Int) + 1 ≤ (l.length : Int) + 1 := by omega
  have hp5 : ((i : Int) + 1).toNat = i + 1 := by omega
  have hp6 : ¬ (cap = i + 1) := by omega
  have hp7 : ¬ (cap = i) := by omega
  have hp8 : (0 : Int) ≤ (i : Int) + 1 := by omega
  have hp9 : (i : Int) ≤ (l.length : Int) + 1 := by omega
  have hp10 : ((l.length : Int) + 1).toNat = l.length + 1 := by omega
  have hp11 : (0 : Int) ≤ (l.length : Int) + 1 := by omega
  have hwr : IntKind.i64.wrap ((i : Int) + 1) = (i : Int) + 1 := wrap_id64 (by omega) (by omega)
  have hm1 : Nat.min (l.length + 1 - i) (l.length - i) = l.length - i := Nat.min_eq_right (by omega)
  go_enter Try.func39, Try.ntmps39
  go_wp2_with (simp only [hov])
  refine wp_region_held_drew (S := (fun _ => True)) (by kernel_rfl) (by trivial) (fun hHeld => ?_)
  refine takeH (i := 0) (d := (some 69)) (v := ?_) rfl rfl (by kernel_rfl) (by kernel_rfl) (by kernel_rfl) (fun _ _ _ h => h) (by kernel_rfl) ?_ (by assumption) ?_
  rotate_left
  · (intro w hSw; (try dsimp only at hSw); go_simp; try with_reducible rfl)
  try simp only [Act.put, List.setIfInBounds_toArray, List.set_cons_succ, List.set_cons_zero]
  refine takeH (i := 1) (d := (some 70)) (v := ?_) rfl rfl (by kernel_rfl) (by kernel_rfl) (by kernel_rfl) (fun _ _ _ h => h) (by kernel_rfl) ?_ (by assumption) ?_
  rotate_left
  · (intro w hSw; (try dsimp only at hSw); go_simp; try with_reducible rfl)
  try simp only [Act.put, List.setIfInBounds_toArray, List.set_cons_succ, List.set_cons_zero]
  refine takeH (i := 2) (d := (some 71)) (v := ?_) rfl rfl (by kernel_rfl) (by kernel_rfl) (by kernel_rfl) (fun _ _ _ h => h) (by kernel_rfl) ?_ (by assumption) ?_
  rotate_left
  · (intro w hSw; (try dsimp only at hSw); go_simp; try with_reducible rfl)
  try simp only [Act.put, List.setIfInBounds_toArray, List.set_cons_succ, List.set_cons_zero]
  refine takeH (i := 3) (d := (some 72)) (v := ?_) rfl rfl (by kernel_rfl) (by kernel_rfl) (by kernel_rfl) (fun _ _ _ h => h) (by kernel_rfl) ?_ (by assumption) ?_
  rotate_left
  · (intro w hSw; (try dsimp only at hSw); go_simp; try with_reducible rfl)
  try simp only [Act.put, List.setIfInBounds_toArray, List.set_cons_succ, List.set_cons_zero]
  refine takeH (i := 4) (d := (some 73)) (v := ?_) rfl rfl (by kernel_rfl) (by kernel_rfl) (by kernel_rfl) (fun _ _ _ h => h) (by kernel_rfl) ?_ (by assumption) ?_
  rotate_left
  · (intro w hSw; (try dsimp only at hSw); go_simp; try with_reducible rfl)
  try simp only [Act.put, List.setIfInBounds_toArray, List.set_cons_succ, List.set_cons_zero]
  refine takeH (i := 5) (d := (some 74)) (v := ?_) rfl rfl (by kernel_rfl) (by kernel_rfl) (by kernel_rfl) (fun _ _ _ h => h) (by kernel_rfl) ?_ (by assumption) ?_
  rotate_left
  · (intro w hSw; (try dsimp only at hSw); go_simp; try with_reducible rfl)
  try simp only [Act.put, List.setIfInBounds_toArray, List.set_cons_succ, List.set_cons_zero]
  refine takeH (i := 6) (d := (some 75)) (v := ?_) rfl rfl (by kernel_rfl) (by kernel_rfl) (by kernel_rfl) (fun _ _ _ h => h) (by kernel_rfl) ?_ (by assumption) ?_
  rotate_left
  · (intro w hSw; (try dsimp only at hSw); go_simp; try with_reducible rfl)
  try simp only [Act.put, List.setIfInBounds_toArray, List.set_cons_succ, List.set_cons_zero]
  refine takeH (i := 7) (d := (some 76)) (v := ?_) rfl rfl (by kernel_rfl) (by kernel_rfl) (by kernel_rfl) (fun _ _ _ h => h) (by kernel_rfl) ?_ (by assumption) ?_
  rotate_left
  · (intro w hSw; (try dsimp only at hSw); go_simp; try with_reducible rfl)
  try simp only [Act.put, List.setIfInBounds_toArray, List.set_cons_succ, List.set_cons_zero]
  refine wpAnyH_ready (rs := [8]) (by kernel_rfl) (by simp) ?_
  refine AllReadyH.cons rfl (fun K hK => ?_) AllReadyH.nil
  refine step_copy_N rfl (.tmp 73) (.tmp 76) 24 24 rfl 36 2 Try.underlying24 i0 hi0 hz1 g ((i + 1) * 2) (l.length - i) (cap - (i + 1)) ⟨g, i * 2, none⟩ (l.length + 1 - i) (cap - i) (l.length - i) rfl rfl cur 36 HG.out ((l.drop i).flatMap scC) hm1 HZL.out HZS.out HF1.out HZ1.out ?_; rw [← HW1.out]
  refine hK.out _ _ ?_ (fun hHeld => ?_)
  · trivial
  clear hK K
  (try simp only [Act.put]); (try simp only [List.setIfInBounds_toArray]); (try simp only [List.set_cons_succ]); (try simp only [List.set_cons_zero])
  refine wpAnyH_done (by kernel_rfl) ?_ _
  clear hHeld hov HG HZS HW1
  have hcp := HCP.out
  clear HG1 HYS HF2 HY1 HZ1 HF1 HW2 HYL
  go_wp2_with fail
  go_ret
  exact ⟨rfl, HFIN.out, HGR.out⟩
set_option maxHeartbeats 8000000 in
set_option maxRecDepth 100000 in
/-- ahead of another one, where there is no room: a new row -/
theorem scInsert_new (g cap i : Nat) (l : List (ByteArray × Int)) (y : (ByteArray × Int)) (vb base : Nat) (w : World) (ho : ScOwns w base (.slice (some ⟨g, 0, none⟩) l.length cap) l) (hv : w.heap[vb]? = some (.cells (scC y).toArray 36 (0, 0))) (hbase : base ≤ w.heap.size) (hi : i < l.length) (hroom : cap < l.length + 1) (hlen : l.length ≤ 1048576) :
    Calls Try.prog 39 #[.slice (some ⟨g, 0, none⟩) l.length cap, .int .i64 (i : Int), .slice (some ⟨vb, 0, none⟩) 1 1] w fun e w' => ∃ G, e = .returned (.slice (some ⟨w.heap.size, 0, none⟩) (l.length + 1) G) ∧ ScOwns w' base (.slice (some ⟨w.heap.size, 0, none⟩) (l.length + 1) G) (l.take i ++ y :: l.drop i) ∧ Below w.heap.size w w' := by
  obtain ⟨i0, hi0, hz0, hz1, hz2⟩ := info_parts scInfo
  have hnc : l.length ≤ cap := by
    rcases ho.2 with ⟨h, _⟩ | ⟨g', cap', cur', hv, hbg, hg, hnc, hcm, hcs, ht⟩
    · cases h
    · simp only [Value.slice.injEq, Option.some.injEq, Addr.mk.injEq, and_true, true_and] at hv
      obtain ⟨rfl, rfl⟩ := hv
      exact hnc
  have hgl : g < w.heap.size := (World.ownsRow.lt ho g rfl).2
  have hvl : vb < w.heap.size := (Array.getElem?_eq_some_iff.1 hv).1
  have hold : (Builtin.firstCells i0.size i (.slice (some ⟨g, 0, none⟩) i cap)).run Try.prog w.drew = .ok ((l.take i).flatMap scC).toArray w.drew := by
    rw [hz1]
    refine run_firstCells_some (P := Try.prog) (w := w.drew) 2 i ⟨g, 0, none⟩ i cap _ (by rw [flat_len scC_len, List.length_take, Nat.min_eq_left (by omega)]) (fun j v hj => ?_)
    rw [Addr.add_mid, Nat.zero_add]
    rw [← flat_take scC_len, List.getElem?_take] at hj
    split at hj
    · have hlt := (List.getElem?_eq_some_iff.1 hj).1
      rw [flat_len scC_len] at hlt
      rw [World.ownsRow.cellAt (World.ownsRow.drew ho) _ hlt]; exact hj
    · cases hj
  have hik : i + (l.length + 1 - i) = l.length + 1 := by omega
  have hkk : ((l.length + 1 - i : Nat) : Int) = (l.length : Int) + 1 - (i : Int) := by omega
  have hrz0 := Lib.run_append_grow_zeros (P := Try.prog) w 24 3 24 36 i0 _ .i64 .i64 Try.underlying24 Try.underlying3 hi0 hz0 (some ⟨g, 0, none⟩) i cap _ hold (l.length + 1 - i) (by omega) (by omega) (by omega) (by omega) (by rw [hz2]; omega) (by rw [hz2, hik]; exact growslice_fits hroom (by omega))
  rw [hik, hkk] at hrz0
  obtain ⟨G, hG⟩ : ∃ G, grownCap w (l.length + 1) cap 36 = G := ⟨_, rfl⟩
  have hGn : l.length + 1 ≤ G := by rw [← hG]; exact grownCap_ge w _ _ _
  have hGm : G ≤ maxLen := by rw [← hG]; exact grownCap_le_maxLen w (l.length + 1) cap 36 (by unfold maxLen; omega)
  rw [hG] at hrz0
  obtain ⟨O, hO⟩ : ∃ O, Builtin.zeroCells (Value.agg #[.string ByteArray.empty, .int .i64 0]).cells (l.length + 1 - i) = O := ⟨_, rfl⟩
  obtain ⟨T, hT⟩ : ∃ T, Builtin.zeroCells (Value.agg #[.string ByteArray.empty, .int .i64 0]).cells (G - (l.length + 1)) = T := ⟨_, rfl⟩
  have hOl : O.toList.length = (l.length + 1 - i) * 2 := by rw [← hO]; simp [Builtin.zeroCells, Value.cells]
  have hTl : T.toList.length = (G - (l.length + 1)) * 2 := by rw [← hT]; simp [Builtin.zeroCells, Value.cells]
  rw [hO, hT] at hrz0
  have hXl : ((l.take i).flatMap scC).length = i * 2 := by rw [flat_len scC_len, List.length_take, Nat.min_eq_left (by omega)]
  have hZl : ((l.drop i).flatMap scC).length = (l.length - i) * 2 := by rw [flat_len scC_len]; simp
  obtain ⟨ROW, hROW⟩ : ∃ ROW : Array Value, ((l.take i).flatMap scC).toArray ++ O ++ T = ROW := ⟨_, rfl⟩
  have hRl : ROW.toList = (l.take i).flatMap scC ++ O.toList ++ T.toList := by rw [← hROW]; simp
  have hRs : ROW.size = G * 2 := by rw [← Array.length_toList, hRl, List.length_append, List.length_append, hXl, hOl, hTl]; omega
  rw [hROW] at hrz0
  obtain ⟨W1, hW1⟩ : ∃ W1, w.drew.alloc (.cells ROW 36) = W1 := ⟨_, rfl⟩
  rw [hW1] at hrz0
  have hb1 : Below w.heap.size w W1 := by rw [← hW1]; exact ((Below.refl w.heap.size w).drew).alloc (Nat.le_refl _) _
  have hg1 : W1.heap[w.heap.size]? = some (.cells ROW 36 (0, 0)) := by rw [← hW1]; exact heap_alloc_new w.drew _
  have hYs : ∀ j u, (scC y)[j]? = some u → W1.cell? ((⟨vb, 0, none⟩ : Addr).add j) = some u := fun j u hu => by
    rw [Addr.add_mid, cell_of_row W1 vb _ _ _ _ ((hb1.block vb hvl).trans hv)]; simpa using hu
  obtain ⟨W2, hW2⟩ : ∃ W2, W2 = W1.setRow w.heap.size (splice ROW.toList (i * 2) (scC y)).toArray := ⟨_, rfl⟩
  have hb2 : Below w.heap.size w W2 := by rw [hW2]; exact below_setRowR hb1 (Nat.le_refl _) _
  have hg2 : W2.heap[w.heap.size]? = some (.cells (splice ROW.toList (i * 2) (scC y)).toArray 36 (0, 0)) := by rw [hW2]; exact heap_setRowR hg1
  have hYl : (scC y).length = 1 * 2 := by rw [scC_len]
  have hcp0 := fun (dc : Nat) => run_copy_N (P := Try.prog) W1 24 24 3 36 2 w.heap.size (i * 2) (l.length + 1 - i) dc ⟨vb, 0, none⟩ 1 1 1 ROW 36 (scC y) Try.underlying24 i0 hi0 hz1 hg1 (Nat.min_eq_left (by omega)) hYl hYs (by rw [hYl, hRs]; omega) (scC_one y)
  rw [← hW2] at hcp0
  have hZs : ∀ j u, ((l.drop i).flatMap scC)[j]? = some u → W2.drew.cell? ((⟨g, i * 2, none⟩ : Addr).add j) = some u := fun j u hu => by
    rw [Addr.add_mid]
    rw [← flat_drop scC_len, List.getElem?_drop] at hu
    have hlt := (List.getElem?_eq_some_iff.1 hu).1
    rw [flat_len scC_len] at hlt
    have := World.ownsRow.cellAt ho _ hlt
    rw [hu] at this
    exact (hb2.cell (p := ⟨g, i * 2 + j, none⟩) hgl).trans this
  obtain ⟨W3, hW3⟩ : ∃ W3, W3 = W2.drew.setRow w.heap.size (splice (splice ROW.toList (i * 2) (scC y)).toArray.toList ((i + 1) * 2) ((l.drop i).flatMap scC)).toArray := ⟨_, rfl⟩
  have hsl : (splice ROW.toList (i * 2) (scC y)).length = G * 2 := by rw [length_splice _ _ _ (by rw [hYl, Array.length_toList, hRs]; omega), Array.length_toList, hRs]
  have hspl : splice (splice ROW.toList (i * 2) (scC y)).toArray.toList ((i + 1) * 2) ((l.drop i).flatMap scC) = (l.take i ++ y :: l.drop i).flatMap scC ++ T.toList := by
    rw [List.toList_toArray, hRl, show (i + 1) * 2 = i * 2 + 2 by omega, splice_new _ _ _ _ _ (i * 2) 2 hXl (scC_len y) (by rw [hOl, hZl]; omega), ins_flat]
  have hg3 : W3.heap[w.heap.size]? = some (.cells ((l.take i ++ y :: l.drop i).flatMap scC ++ T.toList).toArray 36 (0, 0)) := by
    rw [hW3, hspl]; exact heap_setRowR (w := W2.drew) hg2
  have hb3 : Below w.heap.size w W3 := by rw [hW3]; exact below_setRowR hb2.drew (Nat.le_refl _) _
  have hL : (l.take i ++ y :: l.drop i).length = l.length + 1 := ins_len l i y (by omega)
  have hfin := own_made (base := base) (cap := G) scC_len _ hg3 hbase (by omega) hGm (by rw [hTl, hL])
  rw [hL] at hfin
  have HFIN : Hid (ScOwns W3 base (.slice (some ⟨w.heap.size, 0, none⟩) (l.length + 1) G) (l.take i ++ y :: l.drop i)) := hfin
  have HB3 : Hid (Below w.heap.size w W3) := hb3
  have HW3 : Hid (W3 = W2.drew.setRow w.heap.size (splice (splice ROW.toList (i * 2) (scC y)).toArray.toList ((i + 1) * 2) ((l.drop i).flatMap scC)).toArray) := hW3
  have HG2 : Hid (W2.drew.heap[w.heap.size]? = some (.cells (splice ROW.toList (i * 2) (scC y)).toArray 36 (0, 0))) := hg2
  have HZL : Hid (((l.drop i).flatMap scC).length = (l.length - i) * 2) := hZl
  have HZS : Hid (∀ j u, ((l.drop i).flatMap scC)[j]? = some u → W2.drew.cell? ((⟨g, i * 2, none⟩ : Addr).add j) = some u) := hZs
  have HZ1 : Hid (∀ u ∈ (l.drop i).flatMap scC, u.oneCell' = true) := flat_one scC_one _
  have HF2 : Hid ((i + 1) * 2 + ((l.drop i).flatMap scC).length ≤ (splice ROW.toList (i * 2) (scC y)).toArray.size) := by
    show _ ≤ _; rw [List.size_toArray, hsl, hZl]; omega
  have HCP : Hid (∀ dc : Nat, (Builtin.copy_ #[24, 24] 3 #[.slice (some ⟨w.heap.size, i * 2, none⟩) (l.length + 1 - i) dc, .slice (some ⟨vb, 0, none⟩) 1 1]).run Try.prog W1 = .ok (goInt 1) W2) := hcp0
  have HRZ : Hid ((Builtin.append_ #[24, 3] 24 #[.slice (some ⟨g, 0, none⟩) i cap, .int .i64 ((l.length : Int) + 1 - (i : Int))]).run Try.prog w = .ok (.slice (some ⟨w.heap.size, 0, none⟩) (l.length + 1) G) W1) := hrz0
  clear hg1 hg2 hg3 hb1 hb2 hb3 hfin hspl hsl hW1 hW2 hW3 hYs hYl hZs hZl hXl hOl hTl hRl hRs hROW hO hT hG hcp0 hrz0 hold ho hv hik hkk
  unfold maxLen at hGm
  have hcz : cap ≤ 1048577 := by omega
  have hp1 : ¬ ((i : Int) = (l.length : Int)) := by omega
  have hp2 : (i : Int) ≤ (l.length : Int) := by omega
  have hp3 : (cap : Int) < (l.length : Int) + 1 := by omega
  have hp4 : (i : Int) + 1 ≤ (l.length : Int) + 1 := by omega
  have hp5 : ((i : Int) + 1).toNat = i + 1 := by omega
  have hp6 : ¬ (G = i + 1) := by omega
  have hp7 : ¬ (G = i) := by omega
  have hp8 : (0 : Int) ≤ (i : Int) + 1 := by omega
  have hp9 : (i : Int) ≤ (l.length : Int) + 1 := by omega
  have hp10 : ¬ (cap = i) := by omega
  have hp11 : (i : Int) ≤ (cap : Int) := by omega
  have hwr : IntKind.i64.wrap ((i : Int) + 1) = (i : Int) + 1 := wrap_id64 (by omega) (by omega)
  have hm1 : Nat.min (l.length - i) (l.length - i) = l.length - i := Nat.min_eq_left (by omega)
  have hcp := HCP.out
  clear HCP
  go_enter Try.func39, Try.ntmps39
  go_wp2_with (at_builtin; refine Lib.wpList_append_run _ rfl _ _ _ _ rfl _ _ rfl rfl _ _ HRZ.out ?_)
  refine wp_region_held_drew (S := (fun _ => True)) (by kernel_rfl) (by trivial) (fun hHeld => ?_)
  refine takeH (i := 0) (d := (some 46)) (v := ?_) rfl rfl (by kernel_rfl) (by kernel_rfl) (by kernel_rfl) (fun _ _ _ h => h) (by kernel_rfl) ?_ (by assumption) ?_
  rotate_left
  · (intro w hSw; (try dsimp only at hSw); go_simp; try with_reducible rfl)
  try simp only [Act.put, List.setIfInBounds_toArray, List.set_cons_succ, List.set_cons_zero]
  refine takeH (i := 1) (d := (some 47)) (v := ?_) rfl rfl (by kernel_rfl) (by kernel_rfl) (by kernel_rfl) (fun _ _ _ h => h) (by kernel_rfl) ?_ (by assumption) ?_
  rotate_left
  · (intro w hSw; (try dsimp only at hSw); go_simp; try with_reducible rfl)
  try simp only [Act.put, List.setIfInBounds_toArray, List.set_cons_succ, List.set_cons_zero]
  refine takeH (i := 2) (d := (some 48)) (v := ?_) rfl rfl (by kernel_rfl) (by kernel_rfl) (by kernel_rfl) (fun _ _ _ h => h) (by kernel_rfl) ?_ (by assumption) ?_
  rotate_left
  · (intro w hSw; (try dsimp only at hSw); go_simp; try with_reducible rfl)
  try simp only [Act.put, List.setIfInBounds_toArray, List.set_cons_succ, List.set_cons_zero]
  refine takeH (i := 3) (d := (some 49)) (v := ?_) rfl rfl (by kernel_rfl) (by kernel_rfl) (by kernel_rfl) (fun _ _ _ h => h) (by kernel_rfl) ?_ (by assumption) ?_
  rotate_left
  · (intro w hSw; (try dsimp only at hSw); go_simp; try with_reducible rfl)
  try simp only [Act.put, List.setIfInBounds_toArray, List.set_cons_succ, List.set_cons_zero]
  refine takeH (i := 4) (d := (some 50)) (v := ?_) rfl rfl (by kernel_rfl) (by kernel_rfl) (by kernel_rfl) (fun _ _ _ h => h) (by kernel_rfl) ?_ (by assumption) ?_
  rotate_left
  · (intro w hSw; (try dsimp only at hSw); go_simp; try with_reducible rfl)
  try simp only [Act.put, List.setIfInBounds_toArray, List.set_cons_succ, List.set_cons_zero]
  refine takeH (i := 5) (d := (some 51)) (v := ?_) rfl rfl (by kernel_rfl) (by kernel_rfl) (by kernel_rfl) (fun _ _ _ h => h) (by kernel_rfl) ?_ (by assumption) ?_
  rotate_left
  · (intro w hSw; (try dsimp only at hSw); go_simp; try with_reducible rfl)
  try simp only [Act.put, List.setIfInBounds_toArray, List.set_cons_succ, List.set_cons_zero]
  refine takeH (i := 6) (d := (some 52)) (v := ?_) rfl rfl (by kernel_rfl) (by kernel_rfl) (by kernel_rfl) (fun _ _ _ h => h) (by kernel_rfl) ?_ (by assumption) ?_
  rotate_left
  · (intro w hSw; (try dsimp only at hSw); go_simp; try with_reducible rfl)
  try simp only [Act.put, List.setIfInBounds_toArray, List.set_cons_succ, List.set_cons_zero]
  refine takeH (i := 7) (d := (some 53)) (v := ?_) rfl rfl (by kernel_rfl) (by kernel_rfl) (by kernel_rfl) (fun _ _ _ h => h) (by kernel_rfl) ?_ (by assumption) ?_
  rotate_left
  · (intro w hSw; (try dsimp only at hSw); go_simp; try with_reducible rfl)
  try simp only [Act.put, List.setIfInBounds_toArray, List.set_cons_succ, List.set_cons_zero]
  refine wpAnyH_ready (rs := [8]) (by kernel_rfl) (by simp) ?_
  refine AllReadyH.cons rfl (fun K hK => ?_) AllReadyH.nil
  refine step_copy_N rfl (.tmp 50) (.tmp 53) 24 24 rfl 36 2 Try.underlying24 i0 hi0 hz1 w.heap.size ((i + 1) * 2) (l.length - i) (G - (i + 1)) ⟨g, i * 2, none⟩ (l.length - i) (cap - i) (l.length - i) rfl rfl _ 36 HG2.out ((l.drop i).flatMap scC) hm1 HZL.out HZS.out HF2.out HZ1.out ?_; rw [← HW3.out]
  refine hK.out _ _ ?_ (fun hHeld => ?_)
  · trivial
  clear hK K
  (try simp only [Act.put]); (try simp only [List.setIfInBounds_toArray]); (try simp only [List.set_cons_succ]); (try simp only [List.set_cons_zero])
  refine wpAnyH_done (by kernel_rfl) ?_ _
  clear hHeld HG2 HZS HW3
  go_wp2_with fail
  go_ret
  exact ⟨G, rfl, HFIN.out, HB3.out⟩
end Go.Proofs.Ytndegickekjkjaa
