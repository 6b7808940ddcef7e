/- slices.Delete of one row of Score, from a row of one's own. -/
import Derived.Test.YtndegickekjkjaaScB
import Derived.Test.YtndegickekjkjaaDl
import Derived.Test.YtndegickekjkjaaTk
namespace Go.Proofs.Ytndegickekjkjaa
open Go.RowKit

theorem scZero : ∀ w, (zeroValue 36).run Try.prog w = .ok (.agg #[.string ByteArray.empty, .int .i64 0]) w := Try.zeroValue36

set_option maxHeartbeats 8000000 in
set_option maxRecDepth 100000 in
theorem scDelete_any (g cap i base : Nat) (l : List (ByteArray × Int)) (w : World) (ho : ScOwns w base (.slice (some ⟨g, 0, none⟩) l.length cap) l) (hi : i < l.length) (hlen : l.length ≤ 1048576) :
    Calls Try.prog 48 #[.slice (some ⟨g, 0, none⟩) l.length cap, .int .i64 (i : Int), .int .i64 ((i : Int) + 1)] w fun e w' => e = .returned (.slice (some ⟨g, 0, none⟩) (l.length - 1) cap) ∧ ScOwns w' base (.slice (some ⟨g, 0, none⟩) (l.length - 1) cap) (l.eraseIdx i) ∧ w.grownBy w' (some g) := by
  obtain ⟨i0, hi0, hz0, hz1, hz2⟩ := info_parts scInfo
  have hod : ScOwns w.drew base (.slice (some ⟨g, 0, none⟩) l.length cap) l := World.ownsRow.drew ho
  obtain ⟨cur, hcur, hfit, hmv⟩ := own_moved scC_len hod hi
  have hcap : l.length ≤ cap ∧ cap ≤ maxLen := by
    rcases ho.2 with ⟨h, _⟩ | ⟨g', cap', cur', hv, _, _, hnc, hcm, _⟩
    · cases h
    · simp only [Value.slice.injEq, Option.some.injEq, Addr.mk.injEq, and_true, true_and] at hv
      obtain ⟨rfl, rfl⟩ := hv
      exact ⟨hnc, hcm⟩
  obtain ⟨hnc, hcm⟩ := hcap
  unfold maxLen at hcm
  obtain ⟨A, hA, hnews⟩ : ∃ A : Addr, (if cap = i + 1 then some (⟨g, 0, none⟩ : Addr) else some ⟨g, (i + 1) * 2, none⟩) = some A ∧ Hid (∀ j u, ((l.drop (i + 1)).flatMap scC)[j]? = some u → w.drew.cell? (A.add j) = some u) := by
    by_cases h : cap = i + 1
    · refine ⟨⟨g, 0, none⟩, by simp [h], fun j u hu => ?_⟩
      have h0 : l.drop (i + 1) = [] := List.drop_eq_nil_iff.2 (by omega)
      rw [h0] at hu; simp at hu
    · refine ⟨⟨g, (i + 1) * 2, none⟩, by simp [h], fun j u hu => ?_⟩
      rw [Addr.add_mid]
      rw [← flat_drop scC_len, List.getElem?_drop] at hu
      have hlt := (List.getElem?_eq_some_iff.1 hu).1
      rw [flat_len scC_len] at hlt
      rw [World.ownsRow.cellAt hod _ hlt]; exact hu
  obtain ⟨W1, hW1⟩ : ∃ W1, W1 = w.drew.setRow g (cur.toList.take (i * 2) ++ (l.drop (i + 1)).flatMap scC ++ cur.toList.drop (i * 2 + ((l.drop (i + 1)).flatMap scC).length)).toArray := ⟨_, rfl⟩
  rw [← hW1] at hmv
  have hgr1 : w.grownBy W1 (some g) := by rw [hW1]; exact ⟨rfl, rfl, rfl, (grown_setRow (w := w.drew) _).size, fun k hk hne => (grown_setRow (w := w.drew) _).block k hk hne⟩
  have HW1 : Hid _ := hW1
  clear hW1
  have HN : Hid (((l.drop (i + 1)).flatMap scC).length = (l.length - (i + 1)) * 2) := by show _ = _; rw [flat_len scC_len]; simp
  have HC1 : Hid (∀ u ∈ (l.drop (i + 1)).flatMap scC, u.oneCell' = true) := flat_one scC_one _
  have HCUR : Hid (w.drew.heap[g]? = some (.cells cur 36 (0, 0))) := hcur
  have HFIT : Hid (i * 2 + ((l.drop (i + 1)).flatMap scC).length ≤ cur.size) := hfit
  -- what is cleared behind it
  have hLl : (l.eraseIdx i ++ l.drop (l.length - 1)).length = l.length := by
    rw [List.length_append, List.length_eraseIdx, if_pos hi, List.length_drop]; omega
  have hlast : (l.eraseIdx i ++ l.drop (l.length - 1))[l.length - 1]? = some (scAt l (l.length - 1)) := by
    rw [List.getElem?_append_right (by rw [List.length_eraseIdx, if_pos hi]; exact Nat.le_refl _), List.length_eraseIdx, if_pos hi, Nat.sub_self, List.getElem?_drop, Nat.add_zero, scAt_some (by omega)]
  have hcutL : (l.eraseIdx i ++ l.drop (l.length - 1)).take (l.length - 1) = l.eraseIdx i := by
    rw [List.take_append_of_le_length (by rw [List.length_eraseIdx, if_pos hi]; exact Nat.le_refl _), List.take_of_length_le (by rw [List.length_eraseIdx, if_pos hi]; exact Nat.le_refl _)]
  generalize l.eraseIdx i ++ l.drop (l.length - 1) = L at *
  have hmv : ScOwns W1 base (.slice (some ⟨g, 0, none⟩) L.length cap) L := by rw [hLl]; exact hmv
  have hd0 : W1.cell? ⟨g, (l.length - 1) * 2, none⟩ = _ := cellR scC_len hmv hlast 0 _ rfl
  have hd1 : W1.cell? ⟨g, (l.length - 1) * 2 + 1, none⟩ = _ := cellR scC_len hmv hlast 1 _ rfl
  have hf0 := World.ownsRow.frozenAt hmv ((l.length - 1) * 2)
  have hf1 := World.ownsRow.frozenAt hmv ((l.length - 1) * 2 + 1)
  have hcl := fun (ty : TypeId) (cc : Nat) => run_clear_two (P := Try.prog) W1 24 36 ty (.string ByteArray.empty) (.int .i64 0) Try.underlying24 scZero rfl rfl g ((l.length - 1) * 2) cc (by rw [hd0]; rfl) (by rw [hd1]; rfl) hf0 hf1
  have hst := ownsR_store2 scC_len hmv (l.length - 1) _ scZ (.string ByteArray.empty) (.int .i64 0) hlast rfl
  have hfin := own_short scC_len (n := l.length - 1) (by rw [List.length_set]; exact hst.1) (by rw [List.length_set, hLl]; omega)
  rw [List.take_set_of_le (Nat.le_refl _), hcutL] at hfin
  have HFIN : Hid _ := hfin
  have HG : Hid _ := hst.2
  clear hcutL hfin hst hlast hLl hmv hd0 hd1 hf0 hf1 hcur hfit hod ho
  obtain ⟨n, hn⟩ : ∃ n, l.length = n + 1 := ⟨l.length - 1, by omega⟩
  rw [hn, Nat.add_sub_cancel] at HFIN HG hcl
  rw [hn, Nat.add_sub_cancel]
  rw [hn] at HN hnc hi hlen
  have hin : i ≤ n := by omega
  have hp0 : (0 : Int) ≤ (i : Int) + 1 := by omega
  have hp1 : (i : Int) + 1 ≤ (n : Int) + 1 := by omega
  have hp2 : (i : Int) ≤ (cap : Int) := by omega
  have hp3 : (n : Int) + 1 ≤ (cap : Int) := by omega
  have hp4 : ((i : Int) == (i : Int) + 1) = false := by simp; omega
  have hp5 : i + (n - i) = n := by omega
  have HN2 : Hid (((l.drop (i + 1)).flatMap scC).length = (n - i) * 2) := by have := HN.out; rw [Nat.add_sub_add_right] at this; exact this
  have hp6 : (n : Int) ≤ (n : Int) + 1 := by omega
  have hp7 : (i : Int) ≤ (i : Int) + 1 := by omega
  have hp8 : ((i : Int) + 1).toNat = i + 1 := by omega
  clear hn
  go_enter Try.func48, Try.ntmps48
  go_wp2_with fail
  refine wp_region_held_drew (S := (fun _ => True)) (by kernel_rfl) (by trivial) (fun hHeld => ?_)
  refine takeH (i := 0) (d := (some 20)) (v := ?_) rfl rfl (by kernel_rfl) (by kernel_rfl) (by kernel_rfl) (fun _ _ _ h => h) (by kernel_rfl) ?_ (by assumption) ?_
  rotate_left
  · (intro w hSw; (try dsimp only at hSw); go_simp; try with_reducible rfl)
  try simp only [Act.put, List.setIfInBounds_toArray, List.set_cons_succ, List.set_cons_zero]
  refine takeH (i := 1) (d := (some 21)) (v := ?_) rfl rfl (by kernel_rfl) (by kernel_rfl) (by kernel_rfl) (fun _ _ _ h => h) (by kernel_rfl) ?_ (by assumption) ?_
  rotate_left
  · (intro w hSw; (try dsimp only at hSw); go_simp; try with_reducible rfl)
  try simp only [Act.put, List.setIfInBounds_toArray, List.set_cons_succ, List.set_cons_zero]
  refine takeH (i := 2) (d := (some 22)) (v := ?_) rfl rfl (by kernel_rfl) (by kernel_rfl) (by kernel_rfl) (fun _ _ _ h => h) (by kernel_rfl) ?_ (by assumption) ?_
  rotate_left
  · (intro w hSw; (try dsimp only at hSw); go_simp; try with_reducible rfl)
  try simp only [Act.put, List.setIfInBounds_toArray, List.set_cons_succ, List.set_cons_zero]
  refine takeH (i := 3) (d := (some 23)) (v := ?_) rfl rfl (by kernel_rfl) (by kernel_rfl) (by kernel_rfl) (fun _ _ _ h => h) (by kernel_rfl) ?_ (by assumption) ?_
  rotate_left
  · (intro w hSw; (try dsimp only at hSw); go_simp; try with_reducible rfl)
  try simp only [Act.put, List.setIfInBounds_toArray, List.set_cons_succ, List.set_cons_zero]
  refine takeH (i := 4) (d := (some 24)) (v := ?_) rfl rfl (by kernel_rfl) (by kernel_rfl) (by kernel_rfl) (fun _ _ _ h => h) (by kernel_rfl) ?_ (by assumption) ?_
  rotate_left
  · (intro w hSw; (try dsimp only at hSw); go_simp; try with_reducible rfl)
  try simp only [Act.put, List.setIfInBounds_toArray, List.set_cons_succ, List.set_cons_zero]
  refine takeH (i := 5) (d := (some 25)) (v := ?_) rfl rfl (by kernel_rfl) (by kernel_rfl) (by kernel_rfl) (fun _ _ _ h => h) (by kernel_rfl) ?_ (by assumption) ?_
  rotate_left
  · (intro w hSw; (try dsimp only at hSw); go_simp; try with_reducible rfl)
  try simp only [Act.put, List.setIfInBounds_toArray, List.set_cons_succ, List.set_cons_zero]
  refine wpAnyH_ready (rs := [6]) (by kernel_rfl) (by simp) ?_
  refine AllReadyH.cons rfl (fun K hK => ?_) AllReadyH.nil
  refine step_append_row rfl (.tmp 22) (.tmp 25) 24 rfl 36 i0 2 Try.underlying24 hi0 hz1 g i cap cur HCUR.out rfl A (n - i) (cap - (i + 1)) ((l.drop (i + 1)).flatMap scC) rfl HN2.out hnews.out HC1.out (by omega) HFIT.out ?_; rw [← HW1.out]
  refine hK.out _ _ ?_ (fun hHeld => ?_)
  · trivial
  clear hK K
  (try simp only [Act.put]); (try simp only [List.setIfInBounds_toArray]); (try simp only [List.set_cons_succ]); (try simp only [List.set_cons_zero])
  refine takeH (i := 7) (d := (some 0)) (v := ?_) rfl rfl (by kernel_rfl) (by kernel_rfl) (by kernel_rfl) (fun _ _ _ h => h) (by kernel_rfl) ?_ (by assumption) ?_
  rotate_left
  · (intro w hSw; (try dsimp only at hSw); go_simp; try with_reducible rfl)
  (try simp only [Act.put]); (try simp only [List.setIfInBounds_toArray]); (try simp only [List.set_cons_succ]); (try simp only [List.set_cons_zero])
  refine wpAnyH_done (by kernel_rfl) ?_ _
  clear hHeld hA HCUR HFIT HC1 HN HN2 HW1 hnews hi0 hz0 hz1 hz2
  go_wp2_with fail
  go_ret
  exact ⟨rfl, HFIN.out, grown_two hgr1 HG.out⟩
end Go.Proofs.Ytndegickekjkjaa
