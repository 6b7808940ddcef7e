/- The model's ScoresAny and ScoresBoth. -/
import Derived.Test.YtndegickekjkjaaSumC
import Derived.Test.YtndegickekjkjaaScF
import Derived.Test.YtndegickekjkjaaTk
namespace Go.Proofs.Ytndegickekjkjaa
open Go.RowKit
set_option linter.unusedVariables false

def fB (b : List (ByteArray × Int)) (x : ByteArray × Int) : ByteArray × Int := (x.1, clampS (x.2 + scNum b x.1))
def anyTo1 (a b : List (ByteArray × Int)) (k : Nat) : List (ByteArray × Int) := (a.take k).map (fB b)
def anyTo2 (a b : List (ByteArray × Int)) (k : Nat) : List (ByteArray × Int) := a.map (fB b) ++ (b.take k).filter (fun x => !scHas a x.1)
def bothTo (a b : List (ByteArray × Int)) (k : Nat) : List (ByteArray × Int) := ((a.take k).filter (fun x => scHas b x.1)).map (fB b)
theorem scTake_succ {a : List (ByteArray × Int)} {k : Nat} (h : k < a.length) : a.take (k + 1) = a.take k ++ [scAt a k] := by
  rw [List.take_succ_eq_append_getElem h, scAt_get h]
theorem anyTo1_step {a b : List (ByteArray × Int)} {k : Nat} (h : k < a.length) : scFoldF [] (anyTo1 a b (k + 1)) = scIns (scFoldF [] (anyTo1 a b k)) (fB b (scAt a k)) := by
  unfold anyTo1; rw [scTake_succ h, List.map_append]; exact scFoldF_snoc _ _ _
theorem anyTo1_end (a b : List (ByteArray × Int)) : anyTo1 a b a.length = anyTo2 a b 0 := by unfold anyTo1 anyTo2; simp
theorem anyTo2_hit {a b : List (ByteArray × Int)} {k : Nat} (h : k < b.length) (hh : scHas a (scAt b k).1 = false) : scFoldF [] (anyTo2 a b (k + 1)) = scIns (scFoldF [] (anyTo2 a b k)) (scAt b k) := by
  unfold anyTo2; rw [scTake_succ h, List.filter_append, ← List.append_assoc]
  rw [show [scAt b k].filter (fun x => !scHas a x.1) = [scAt b k] by simp [hh]]
  exact scFoldF_snoc _ _ _
theorem anyTo2_miss {a b : List (ByteArray × Int)} {k : Nat} (h : k < b.length) (hh : scHas a (scAt b k).1 = true) : anyTo2 a b (k + 1) = anyTo2 a b k := by
  unfold anyTo2; rw [scTake_succ h, List.filter_append, show [scAt b k].filter (fun x => !scHas a x.1) = [] by simp [hh], List.append_nil]
theorem bothTo_hit {a b : List (ByteArray × Int)} {k : Nat} (h : k < a.length) (hh : scHas b (scAt a k).1 = true) : scFoldF [] (bothTo a b (k + 1)) = scIns (scFoldF [] (bothTo a b k)) (fB b (scAt a k)) := by
  unfold bothTo; rw [scTake_succ h, List.filter_append, show [scAt a k].filter (fun x => scHas b x.1) = [scAt a k] by simp [hh], List.map_append]
  exact scFoldF_snoc _ _ _
theorem bothTo_miss {a b : List (ByteArray × Int)} {k : Nat} (h : k < a.length) (hh : scHas b (scAt a k).1 = false) : bothTo a b (k + 1) = bothTo a b k := by
  unfold bothTo; rw [scTake_succ h, List.filter_append, show [scAt a k].filter (fun x => scHas b x.1) = [] by simp [hh], List.append_nil]
theorem anyTo1_len (a b : List (ByteArray × Int)) (k : Nat) : (scFoldF [] (anyTo1 a b k)).length ≤ k := by
  rw [scFoldF_len]; unfold anyTo1; rw [List.length_map, List.length_take]; simp; omega
theorem anyTo2_len (a b : List (ByteArray × Int)) (k : Nat) : (scFoldF [] (anyTo2 a b k)).length ≤ a.length + k := by
  rw [scFoldF_len]; unfold anyTo2; rw [List.length_append, List.length_map]
  have := List.length_filter_le (fun x => !scHas a x.1) (b.take k)
  rw [List.length_take] at this
  simp; omega
theorem bothTo_len (a b : List (ByteArray × Int)) (k : Nat) : (scFoldF [] (bothTo a b k)).length ≤ k := by
  rw [scFoldF_len]; unfold bothTo; rw [List.length_map]
  have := List.length_filter_le (fun x => scHas b x.1) (a.take k)
  rw [List.length_take] at this
  simp; omega
theorem sumBothR_ok {a b : List (ByteArray × Int)} (ha : scOkB a = true) (hb : scOkB b = true) : sumBothR a b = scFoldF [] (bothTo a b a.length) := by
  unfold sumBothR; rw [ha, hb, if_pos (show (true && true) = true from rfl)]; unfold bothTo sumsBoth; rw [List.take_length]; rfl
theorem sumAnyR_ok {a b : List (ByteArray × Int)} (ha : scOkB a = true) (hb : scOkB b = true) : sumAnyR a b = scFoldF [] (anyTo2 a b b.length) := by
  unfold sumAnyR; rw [ha, hb, if_pos (show (true && true) = true from rfl)]; unfold anyTo2 sumsAny; rw [List.take_length]; rfl
theorem sumBothR_no {a b : List (ByteArray × Int)} (h : (scOkB a && scOkB b) = false) : sumBothR a b = [] := by unfold sumBothR; rw [h]; rfl
theorem sumAnyR_no {a b : List (ByteArray × Int)} (h : (scOkB a && scOkB b) = false) : sumAnyR a b = [] := by unfold sumAnyR; rw [h]; rfl
theorem scOwn_some {w : World} {base : Nat} {v : Value} {l : List (ByteArray × Int)} (h : ScOwns w base v l) (h0 : 0 < l.length) : ∃ g c, v = .slice (some ⟨g, 0, none⟩) l.length c := by
  rcases h.2 with ⟨_, hn⟩ | ⟨g, cap, cur, hv, _⟩
  · omega
  · exact ⟨g, cap, hv⟩
set_option maxHeartbeats 8000000 in
set_option maxRecDepth 100000 in
theorem specSumBoth_any (v u : Value) (a b : List (ByteArray × Int)) (w : World) (hr : ScReads w v a) (hq : ScReads w u b) (ha : a.length ≤ 1048576) (hb : b.length ≤ 1048576) :
    Calls Try.prog 12 #[v, u] w fun e w' => ∃ x, e = .returned x ∧ ScOwns w' w.heap.size x (sumBothR a b) ∧ Below w.heap.size w w' := by
  obtain ⟨aa, ca, rfl⟩ := readsR_shape hr
  obtain ⟨ab, cb, rfl⟩ := readsR_shape hq
  obtain ⟨w1, hw1⟩ : ∃ W, w.alloc (.cells #[] 36) = W := ⟨_, rfl⟩
  have hB1 : Below w.heap.size w w1 := by rw [← hw1]; exact (Below.refl _ w).alloc (Nat.le_refl _) _
  have ho1 : ScOwns w1 w.heap.size (.slice (some ⟨w.heap.size, 0, none⟩) 0 0) [] := by rw [← hw1]; exact World.ownsRow_lit w #[] 0 (Nat.le_refl _) (by simp) rfl
  go_enter Try.func12, Try.ntmps12
  go_wp2_with fail
  clear hw1
  refine (specScoresOk_any _ a _ (readsR_kept hr hB1) ha).mono ?_
  rintro e w2 ⟨rfl, hb2⟩
  have hB2 := hB1.trans (hb2.mono hB1.size)
  have ho2 := ownsR_kept ho1 hb2
  clear hB1 hb2 ho1
  cases hoka : scOkB a with
  | false =>
    have HR : Hid (sumBothR a b = []) := sumBothR_no (by rw [hoka]; rfl)
    clear hoka
    go_wp2_with fail
    go_ret
    exact ⟨_, rfl, by rw [HR.out]; exact ho2, hB2⟩
  | true =>
    have HOKA : Hid (scOkB a = true) := hoka
    clear hoka
    go_wp2_with fail
    refine (specScoresOk_any _ b _ (readsR_kept hq hB2) hb).mono ?_
    rintro e w3 ⟨rfl, hb3⟩
    have hB3 := hB2.trans (hb3.mono hB2.size)
    have ho3 := ownsR_kept ho2 hb3
    clear hB2 hb3 ho2
    cases hokb : scOkB b with
    | false =>
      have HR : Hid (sumBothR a b = []) := sumBothR_no (by rw [hokb]; exact Bool.and_false _)
      clear hokb
      go_wp2_with fail
      go_ret
      exact ⟨_, rfl, by rw [HR.out]; exact ho3, hB3⟩
    | true =>
      have HOKB : Hid (scOkB b = true) := hokb
      have HR : Hid _ := sumBothR_ok HOKA.out HOKB.out
      have ha16 := scOk_len HOKA.out
      have hb16 := scOk_len HOKB.out
      clear hokb
      go_wp2_with fail
      go_loopw [5, 6] (fun o i wr => ∃ k : Nat, k ≤ a.length ∧ i = .int .i64 (k : Int) ∧ Below w.heap.size w wr ∧ ∃ g c2 F, Hid (scFoldF [] (bothTo a b k) = F) ∧ o = .slice (some ⟨g, 0, none⟩) F.length c2 ∧ ScOwns wr w.heap.size (.slice (some ⟨g, 0, none⟩) F.length c2) F) (fun _ i _ => a.length - (intOf i).toNat)
      case atStart => exact ⟨0, Nat.zero_le _, rfl, hB3, _, _, [], by show _ = _; unfold bothTo; simp [scFoldF], rfl, ho3⟩
      case round =>
        obtain ⟨k, hk, rfl, hB, g, c2, F, HF, rfl, hoF⟩ := hrel
        clear hB3 ho3
        have hFl : F.length ≤ 1048576 := by have := bothTo_len a b k; rw [HF.out] at this; omega
        by_cases hlt : k < a.length
        · obtain ⟨b0, off, rfl, hb0, hnc, hcm, hc⟩ := sc_some hr (by omega)
          obtain ⟨c0, c1⟩ := sc_cell_kept (sc_cells hc hlt) hB hb0
          have hk1 : (k : Int) < (a.length : Int) := by omega
          obtain ⟨n1a, n1b⟩ := (scFits_num ((scOk_all HOKA.out).1 _ (scAt_mem hlt))).2
          obtain ⟨n2a, n2b⟩ := scNum_bd (scOk_all HOKB.out) (scAt a k).1
          go_wp2_with fail
          refine (l8Num_any _ b (scAt a k).1 _ (readsR_kept hq hB) hb).mono ?_
          rintro e w4 ⟨rfl, rfl⟩
          cases hh : scHas b (scAt a k).1 with
          | true =>
            have HST : Hid (scFoldF [] (bothTo a b (k + 1)) = scIns F (fB b (scAt a k))) := by show _ = _; rw [bothTo_hit hlt hh, HF.out]
            have HL : Hid ((scFoldF [] (bothTo a b (k + 1))).length = F.length + 1) := by show _ = _; rw [HST.out, scIns_len]
            clear hh hc
            go_wp2_with fail
            have hcc : ∀ w', Below wr.heap.size wr w' → w'.cell? ⟨b0, off + k * 2, none⟩ = some (.string (scAt a k).1) ∧ w'.cell? ⟨b0, off + k * 2 + 1, none⟩ = some (.int .i64 (scAt a k).2) := fun w' h => sc_cell_kept ⟨c0, c1⟩ h (by have := hB.size; omega)
            have HCC : Hid _ := hcc
            have HWR : Hid (IntKind.i64.wrap ((scAt a k).2 + scNum b (scAt a k).1) = (scAt a k).2 + scNum b (scAt a k).1) := wrap_id64 (by omega) (by omega)
            have c00 := c0
            have c10 := c1
            clear hcc c0 c1
            have hoD : ScOwns wr.drew w.heap.size (.slice (some ⟨g, 0, none⟩) F.length c2) F := ownsR_kept hoF (Below.refl _ wr).drew
            refine wp_region_held_drew (S := (fun w' => w'.cell? ⟨b0, off + k * 2, none⟩ = some (.string (scAt a k).1) ∧ w'.cell? ⟨b0, off + k * 2 + 1, none⟩ = some (.int .i64 (scAt a k).2))) (by kernel_rfl) (by exact HCC.out _ (Below.refl _ _).drew) (fun hHeld => ?_)
            refine takeH (i := 0) (d := (some 36)) (v := ?_) rfl rfl (by kernel_rfl) (by kernel_rfl) (by kernel_rfl) (fun _ _ _ h => h) (by kernel_rfl) ?_ (by assumption) ?_
            rotate_left
            · (intro w hSw; (try dsimp only at hSw); go_simp; try with_reducible rfl)
            try simp only [Act.put, List.setIfInBounds_toArray, List.set_cons_succ, List.set_cons_zero]
            refine takeH (i := 1) (d := (some 37)) (v := ?_) rfl rfl (by kernel_rfl) (by kernel_rfl) (by kernel_rfl) (fun _ _ _ h => h) (by kernel_rfl) ?_ (by assumption) ?_
            rotate_left
            · (intro w hSw; (try dsimp only at hSw); go_simp; try with_reducible rfl)
            try simp only [Act.put, List.setIfInBounds_toArray, List.set_cons_succ, List.set_cons_zero]
            refine takeH (i := 2) (d := (some 38)) (v := ?_) rfl rfl (by kernel_rfl) (by kernel_rfl) (by kernel_rfl) (fun _ _ _ h => h) (by kernel_rfl) ?_ (by assumption) ?_
            rotate_left
            · (intro w hSw; (try dsimp only at hSw); go_simp; try with_reducible rfl)
            try simp only [Act.put, List.setIfInBounds_toArray, List.set_cons_succ, List.set_cons_zero]
            refine takeH (i := 3) (d := (some 39)) (v := ?_) rfl rfl (by kernel_rfl) (by kernel_rfl) (by kernel_rfl) (fun _ _ _ h => h) (by kernel_rfl) ?_ (by assumption) ?_
            rotate_left
            · (intro w hSw; (try dsimp only at hSw); go_simp; try with_reducible rfl)
            try simp only [Act.put, List.setIfInBounds_toArray, List.set_cons_succ, List.set_cons_zero]
            refine takeH (i := 4) (d := (some 40)) (v := ?_) rfl rfl (by kernel_rfl) (by kernel_rfl) (by kernel_rfl) (fun _ _ _ h => h) (by kernel_rfl) ?_ (by assumption) ?_
            rotate_left
            · (intro w hSw; (try dsimp only at hSw); go_simp; try with_reducible rfl)
            try simp only [Act.put, List.setIfInBounds_toArray, List.set_cons_succ, List.set_cons_zero]
            refine takeH (i := 5) (d := (some 41)) (v := ?_) rfl rfl (by kernel_rfl) (by kernel_rfl) (by kernel_rfl) (fun _ _ _ h => h) (by kernel_rfl) ?_ (by assumption) ?_
            rotate_left
            · (intro w hSw; (try dsimp only at hSw); go_simp; try with_reducible rfl)
            try simp only [Act.put, List.setIfInBounds_toArray, List.set_cons_succ, List.set_cons_zero]
            refine takeH (i := 6) (d := (some 42)) (v := ?_) rfl rfl (by kernel_rfl) (by kernel_rfl) (by kernel_rfl) (fun _ _ _ h => h) (by kernel_rfl) ?_ (by assumption) ?_
            rotate_left
            · (intro w hSw; (try dsimp only at hSw); go_simp; try with_reducible rfl)
            try simp only [Act.put, List.setIfInBounds_toArray, List.set_cons_succ, List.set_cons_zero]
            refine takeH (i := 7) (d := (some 43)) (v := ?_) rfl rfl (by kernel_rfl) (by kernel_rfl) (by kernel_rfl) (fun _ _ _ h => h) (by kernel_rfl) ?_ (by assumption) ?_
            rotate_left
            · (intro w hSw; (try dsimp only at hSw); go_simp; try with_reducible rfl)
            try simp only [Act.put, List.setIfInBounds_toArray, List.set_cons_succ, List.set_cons_zero]
            refine takeH (i := 8) (d := (some 44)) (v := ?_) rfl rfl (by kernel_rfl) (by kernel_rfl) (by kernel_rfl) (fun _ _ _ h => h) (by kernel_rfl) ?_ (by assumption) ?_
            rotate_left
            · (intro w hSw; (try dsimp only at hSw); go_simp; try with_reducible rfl)
            try simp only [Act.put, List.setIfInBounds_toArray, List.set_cons_succ, List.set_cons_zero]
            refine takeH (i := 9) (d := (some 45)) (v := ?_) rfl rfl (by kernel_rfl) (by kernel_rfl) (by kernel_rfl) (fun _ _ _ h => h) (by kernel_rfl) ?_ (by assumption) ?_
            rotate_left
            · (intro w hSw; (try dsimp only at hSw); go_simp; try with_reducible rfl)
            try simp only [Act.put, List.setIfInBounds_toArray, List.set_cons_succ, List.set_cons_zero]
            refine takeH (i := 10) (d := (some 46)) (v := ?_) rfl rfl (by kernel_rfl) (by kernel_rfl) (by kernel_rfl) (fun _ _ _ h => h) (by kernel_rfl) ?_ (by assumption) ?_
            rotate_left
            · (intro w hSw; (try dsimp only at hSw); go_simp; try with_reducible rfl)
            try simp only [Act.put, List.setIfInBounds_toArray, List.set_cons_succ, List.set_cons_zero]
            refine takeH (i := 11) (d := (some 47)) (v := ?_) rfl rfl (by kernel_rfl) (by kernel_rfl) (by kernel_rfl) (fun _ _ _ h => h) (by kernel_rfl) ?_ (by assumption) ?_
            rotate_left
            · (intro w hSw; (try dsimp only at hSw); go_simp; try with_reducible rfl)
            try simp only [Act.put, List.setIfInBounds_toArray, List.set_cons_succ, List.set_cons_zero]
            refine takeH (i := 12) (d := (some 48)) (v := ?_) rfl rfl (by kernel_rfl) (by kernel_rfl) (by kernel_rfl) (fun _ _ _ h => h) (by kernel_rfl) ?_ (by assumption) ?_
            rotate_left
            · (intro w hSw; (try dsimp only at hSw); go_simp; try with_reducible rfl)
            try simp only [Act.put, List.setIfInBounds_toArray, List.set_cons_succ, List.set_cons_zero]
            refine wpAnyH_ready (rs := [13]) (by kernel_rfl) (by simp) ?_
            refine AllReadyH.cons rfl (fun K hK => ?_) AllReadyH.nil
            go_simp
            (try rw [HWR.out]); refine (l8Within_any _ _).mono ?_; rintro e w4 ⟨rfl, rfl⟩
            refine hK.out _ _ ?_ (fun hHeld => ?_)
            · exact hHeld
            clear hK K
            try simp only [Act.put, List.setIfInBounds_toArray, List.set_cons_succ, List.set_cons_zero]
            refine takeH (i := 14) (d := (some 50)) (v := ?_) rfl rfl (by kernel_rfl) (by kernel_rfl) (by kernel_rfl) (fun _ _ _ h => h) (by kernel_rfl) ?_ (by assumption) ?_
            rotate_left
            · (intro w hSw; (try dsimp only at hSw); go_simp; try with_reducible rfl)
            try simp only [Act.put, List.setIfInBounds_toArray, List.set_cons_succ, List.set_cons_zero]
            refine wpAnyH_ready (rs := [15]) (by kernel_rfl) (by simp) ?_
            refine AllReadyH.cons rfl (fun K hK => ?_) AllReadyH.nil
            go_simp
            (try rw [HWR.out]); refine (l8Put_any g c2 F ((scAt a k).1, clampS ((scAt a k).2 + scNum b (scAt a k).1)) w.heap.size wr.drew hoD hFl).mono ?_; rintro e w5 ⟨x5, rfl, ho5, hb5⟩
            refine hK.out _ _ ?_ (fun hHeld => ?_)
            · exact HCC.out _ ((Below.refl _ wr).drew.trans hb5)
            clear hK K
            try simp only [Act.put, List.setIfInBounds_toArray, List.set_cons_succ, List.set_cons_zero]
            refine takeH (i := 16) (d := (some 5)) (v := ?_) rfl rfl (by kernel_rfl) (by kernel_rfl) (by kernel_rfl) (fun _ _ _ h => h) (by kernel_rfl) ?_ (by assumption) ?_
            rotate_left
            · (intro w hSw; (try dsimp only at hSw); go_simp; try with_reducible rfl)
            try simp only [Act.put, List.setIfInBounds_toArray, List.set_cons_succ, List.set_cons_zero]
            refine wpAnyH_done (by kernel_rfl) ?_ _
            have hb5' : Below wr.heap.size wr w5 := (Below.refl _ wr).drew.trans hb5
            have hB5 := hB.trans (hb5'.mono hB.size)
            have ho5' : ScOwns w5 w.heap.size x5 (scIns F (fB b (scAt a k))) := ownsR_base ho5 (show w.heap.size ≤ wr.drew.heap.size from hB.size)
            rw [← HST.out] at ho5'
            clear hb5 hb5' hB ho5 hHeld c00 c10 HCC hoF hoD
            obtain ⟨g5, c5, hx5⟩ := scOwn_some ho5' (by rw [HL.out]; omega)
            subst hx5
            go_wp2_with fail
            go_roundw
            case rel => exact ⟨k + 1, hlt, by go_num, hB5, g5, c5, _, by show _ = _; rfl, rfl, ho5'⟩
            case measure => simp [intOf]; omega
          | false =>
            have HM : Hid (scFoldF [] (bothTo a b (k + 1)) = F) := by show _ = _; rw [bothTo_miss hlt hh]; exact HF.out
            clear hh hc
            go_wp2_with fail
            go_roundw
            case rel => exact ⟨k + 1, hlt, by go_num, hB, g, c2, F, HM, rfl, hoF⟩
            case measure => simp [intOf]; omega
        · obtain rfl : k = a.length := by omega
          go_wp2_with fail
          go_ret
          exact ⟨_, rfl, by rw [HR.out, HF.out]; exact hoF, hB⟩
set_option maxHeartbeats 8000000 in
set_option maxRecDepth 100000 in
theorem specSumAny_any (v u : Value) (a b : List (ByteArray × Int)) (w : World) (hr : ScReads w v a) (hq : ScReads w u b) (ha : a.length ≤ 1048576) (hb : b.length ≤ 1048576) :
    Calls Try.prog 6 #[v, u] w fun e w' => ∃ x, e = .returned x ∧ ScOwns w' w.heap.size x (sumAnyR a b) ∧ Below w.heap.size w w' := by
  obtain ⟨aa, ca, rfl⟩ := readsR_shape hr
  obtain ⟨ab, cb, rfl⟩ := readsR_shape hq
  obtain ⟨w1, hw1⟩ : ∃ W, w.alloc (.cells #[] 36) = W := ⟨_, rfl⟩
  have hB1 : Below w.heap.size w w1 := by rw [← hw1]; exact (Below.refl _ w).alloc (Nat.le_refl _) _
  have ho1 : ScOwns w1 w.heap.size (.slice (some ⟨w.heap.size, 0, none⟩) 0 0) [] := by rw [← hw1]; exact World.ownsRow_lit w #[] 0 (Nat.le_refl _) (by simp) rfl
  go_enter Try.func6, Try.ntmps6
  go_wp2_with fail
  clear hw1
  refine (specScoresOk_any _ a _ (readsR_kept hr hB1) ha).mono ?_
  rintro e w2 ⟨rfl, hb2⟩
  have hB2 := hB1.trans (hb2.mono hB1.size)
  have ho2 := ownsR_kept ho1 hb2
  clear hB1 hb2 ho1
  cases hoka : scOkB a with
  | false =>
    have HR : Hid (sumAnyR a b = []) := sumAnyR_no (by rw [hoka]; rfl)
    clear hoka
    go_wp2_with fail
    go_ret
    exact ⟨_, rfl, by rw [HR.out]; exact ho2, hB2⟩
  | true =>
    have HOKA : Hid (scOkB a = true) := hoka
    clear hoka
    go_wp2_with fail
    refine (specScoresOk_any _ b _ (readsR_kept hq hB2) hb).mono ?_
    rintro e w3 ⟨rfl, hb3⟩
    have hB3 := hB2.trans (hb3.mono hB2.size)
    have ho3 := ownsR_kept ho2 hb3
    clear hB2 hb3 ho2
    cases hokb : scOkB b with
    | false =>
      have HR : Hid (sumAnyR a b = []) := sumAnyR_no (by rw [hokb]; exact Bool.and_false _)
      clear hokb
      go_wp2_with fail
      go_ret
      exact ⟨_, rfl, by rw [HR.out]; exact ho3, hB3⟩
    | true =>
      have HOKB : Hid (scOkB b = true) := hokb
      have HR : Hid _ := sumAnyR_ok HOKA.out HOKB.out
      have ha16 := scOk_len HOKA.out
      have hb16 := scOk_len HOKB.out
      clear hokb
      go_wp2_with fail
      go_loopw [5, 6] (fun o i wr => ∃ k : Nat, k ≤ a.length ∧ i = .int .i64 (k : Int) ∧ Below w.heap.size w wr ∧ ∃ g c2 F, Hid (scFoldF [] (anyTo1 a b k) = F) ∧ o = .slice (some ⟨g, 0, none⟩) F.length c2 ∧ ScOwns wr w.heap.size (.slice (some ⟨g, 0, none⟩) F.length c2) F) (fun _ i _ => a.length - (intOf i).toNat)
      case atStart => exact ⟨0, Nat.zero_le _, rfl, hB3, _, _, [], by show _ = _; unfold anyTo1; simp [scFoldF], rfl, ho3⟩
      case round =>
        obtain ⟨k, hk, rfl, hB, g, c2, F, HF, rfl, hoF⟩ := hrel
        clear hB3 ho3
        have hFl : F.length ≤ 1048576 := by have := anyTo1_len a b k; rw [HF.out] at this; omega
        by_cases hlt : k < a.length
        · obtain ⟨b0, off, rfl, hb0, hnc, hcm, hc⟩ := sc_some hr (by omega)
          obtain ⟨c0, c1⟩ := sc_cell_kept (sc_cells hc hlt) hB hb0
          have hk1 : (k : Int) < (a.length : Int) := by omega
          obtain ⟨n1a, n1b⟩ := (scFits_num ((scOk_all HOKA.out).1 _ (scAt_mem hlt))).2
          obtain ⟨n2a, n2b⟩ := scNum_bd (scOk_all HOKB.out) (scAt a k).1
          go_wp2_with fail
          refine (l8Num_any _ b (scAt a k).1 _ (readsR_kept hq hB) hb).mono ?_
          rintro e w4 ⟨rfl, rfl⟩
          have HST : Hid (scFoldF [] (anyTo1 a b (k + 1)) = scIns F (fB b (scAt a k))) := by show _ = _; rw [anyTo1_step hlt, HF.out]
          have HL : Hid ((scFoldF [] (anyTo1 a b (k + 1))).length = F.length + 1) := by show _ = _; rw [HST.out, scIns_len]
          clear hc
          go_wp2_with fail
          have hcc : ∀ w', Below wr.heap.size wr w' → w'.cell? ⟨b0, off + k * 2, none⟩ = some (.string (scAt a k).1) ∧ w'.cell? ⟨b0, off + k * 2 + 1, none⟩ = some (.int .i64 (scAt a k).2) := fun w' h => sc_cell_kept ⟨c0, c1⟩ h (by have := hB.size; omega)
          have HCC : Hid _ := hcc
          have HWR : Hid (IntKind.i64.wrap ((scAt a k).2 + scNum b (scAt a k).1) = (scAt a k).2 + scNum b (scAt a k).1) := wrap_id64 (by omega) (by omega)
          have c00 := c0
          have c10 := c1
          clear hcc c0 c1
          have hoD : ScOwns wr.drew w.heap.size (.slice (some ⟨g, 0, none⟩) F.length c2) F := ownsR_kept hoF (Below.refl _ wr).drew
          refine wp_region_held_drew (S := (fun w' => w'.cell? ⟨b0, off + k * 2, none⟩ = some (.string (scAt a k).1) ∧ w'.cell? ⟨b0, off + k * 2 + 1, none⟩ = some (.int .i64 (scAt a k).2))) (by kernel_rfl) (by exact HCC.out _ (Below.refl _ _).drew) (fun hHeld => ?_)
          refine takeH (i := 0) (d := (some 38)) (v := ?_) rfl rfl (by kernel_rfl) (by kernel_rfl) (by kernel_rfl) (fun _ _ _ h => h) (by kernel_rfl) ?_ (by assumption) ?_
          rotate_left
          · (intro w hSw; (try dsimp only at hSw); go_simp; try with_reducible rfl)
          try simp only [Act.put, List.setIfInBounds_toArray, List.set_cons_succ, List.set_cons_zero]
          refine takeH (i := 1) (d := (some 39)) (v := ?_) rfl rfl (by kernel_rfl) (by kernel_rfl) (by kernel_rfl) (fun _ _ _ h => h) (by kernel_rfl) ?_ (by assumption) ?_
          rotate_left
          · (intro w hSw; (try dsimp only at hSw); go_simp; try with_reducible rfl)
          try simp only [Act.put, List.setIfInBounds_toArray, List.set_cons_succ, List.set_cons_zero]
          refine takeH (i := 2) (d := (some 40)) (v := ?_) rfl rfl (by kernel_rfl) (by kernel_rfl) (by kernel_rfl) (fun _ _ _ h => h) (by kernel_rfl) ?_ (by assumption) ?_
          rotate_left
          · (intro w hSw; (try dsimp only at hSw); go_simp; try with_reducible rfl)
          try simp only [Act.put, List.setIfInBounds_toArray, List.set_cons_succ, List.set_cons_zero]
          refine takeH (i := 3) (d := (some 41)) (v := ?_) rfl rfl (by kernel_rfl) (by kernel_rfl) (by kernel_rfl) (fun _ _ _ h => h) (by kernel_rfl) ?_ (by assumption) ?_
          rotate_left
          · (intro w hSw; (try dsimp only at hSw); go_simp; try with_reducible rfl)
          try simp only [Act.put, List.setIfInBounds_toArray, List.set_cons_succ, List.set_cons_zero]
          refine takeH (i := 4) (d := (some 42)) (v := ?_) rfl rfl (by kernel_rfl) (by kernel_rfl) (by kernel_rfl) (fun _ _ _ h => h) (by kernel_rfl) ?_ (by assumption) ?_
          rotate_left
          · (intro w hSw; (try dsimp only at hSw); go_simp; try with_reducible rfl)
          try simp only [Act.put, List.setIfInBounds_toArray, List.set_cons_succ, List.set_cons_zero]
          refine takeH (i := 5) (d := (some 43)) (v := ?_) rfl rfl (by kernel_rfl) (by kernel_rfl) (by kernel_rfl) (fun _ _ _ h => h) (by kernel_rfl) ?_ (by assumption) ?_
          rotate_left
          · (intro w hSw; (try dsimp only at hSw); go_simp; try with_reducible rfl)
          try simp only [Act.put, List.setIfInBounds_toArray, List.set_cons_succ, List.set_cons_zero]
          refine takeH (i := 6) (d := (some 44)) (v := ?_) rfl rfl (by kernel_rfl) (by kernel_rfl) (by kernel_rfl) (fun _ _ _ h => h) (by kernel_rfl) ?_ (by assumption) ?_
          rotate_left
          · (intro w hSw; (try dsimp only at hSw); go_simp; try with_reducible rfl)
          try simp only [Act.put, List.setIfInBounds_toArray, List.set_cons_succ, List.set_cons_zero]
          refine takeH (i := 7) (d := (some 45)) (v := ?_) rfl rfl (by kernel_rfl) (by kernel_rfl) (by kernel_rfl) (fun _ _ _ h => h) (by kernel_rfl) ?_ (by assumption) ?_
          rotate_left
          · (intro w hSw; (try dsimp only at hSw); go_simp; try with_reducible rfl)
          try simp only [Act.put, List.setIfInBounds_toArray, List.set_cons_succ, List.set_cons_zero]
          refine takeH (i := 8) (d := (some 46)) (v := ?_) rfl rfl (by kernel_rfl) (by kernel_rfl) (by kernel_rfl) (fun _ _ _ h => h) (by kernel_rfl) ?_ (by assumption) ?_
          rotate_left
          · (intro w hSw; (try dsimp only at hSw); go_simp; try with_reducible rfl)
          try simp only [Act.put, List.setIfInBounds_toArray, List.set_cons_succ, List.set_cons_zero]
          refine takeH (i := 9) (d := (some 47)) (v := ?_) rfl rfl (by kernel_rfl) (by kernel_rfl) (by kernel_rfl) (fun _ _ _ h => h) (by kernel_rfl) ?_ (by assumption) ?_
          rotate_left
          · (intro w hSw; (try dsimp only at hSw); go_simp; try with_reducible rfl)
          try simp only [Act.put, List.setIfInBounds_toArray, List.set_cons_succ, List.set_cons_zero]
          refine takeH (i := 10) (d := (some 48)) (v := ?_) rfl rfl (by kernel_rfl) (by kernel_rfl) (by kernel_rfl) (fun _ _ _ h => h) (by kernel_rfl) ?_ (by assumption) ?_
          rotate_left
          · (intro w hSw; (try dsimp only at hSw); go_simp; try with_reducible rfl)
          try simp only [Act.put, List.setIfInBounds_toArray, List.set_cons_succ, List.set_cons_zero]
          refine takeH (i := 11) (d := (some 49)) (v := ?_) rfl rfl (by kernel_rfl) (by kernel_rfl) (by kernel_rfl) (fun _ _ _ h => h) (by kernel_rfl) ?_ (by assumption) ?_
          rotate_left
          · (intro w hSw; (try dsimp only at hSw); go_simp; try with_reducible rfl)
          try simp only [Act.put, List.setIfInBounds_toArray, List.set_cons_succ, List.set_cons_zero]
          refine takeH (i := 12) (d := (some 50)) (v := ?_) rfl rfl (by kernel_rfl) (by kernel_rfl) (by kernel_rfl) (fun _ _ _ h => h) (by kernel_rfl) ?_ (by assumption) ?_
          rotate_left
          · (intro w hSw; (try dsimp only at hSw); go_simp; try with_reducible rfl)
          try simp only [Act.put, List.setIfInBounds_toArray, List.set_cons_succ, List.set_cons_zero]
          refine wpAnyH_ready (rs := [13]) (by kernel_rfl) (by simp) ?_
          refine AllReadyH.cons rfl (fun K hK => ?_) AllReadyH.nil
          go_simp
          (try rw [HWR.out]); refine (l8Within_any _ _).mono ?_; rintro e w4 ⟨rfl, rfl⟩
          refine hK.out _ _ ?_ (fun hHeld => ?_)
          · exact hHeld
          clear hK K
          try simp only [Act.put, List.setIfInBounds_toArray, List.set_cons_succ, List.set_cons_zero]
          refine takeH (i := 14) (d := (some 52)) (v := ?_) rfl rfl (by kernel_rfl) (by kernel_rfl) (by kernel_rfl) (fun _ _ _ h => h) (by kernel_rfl) ?_ (by assumption) ?_
          rotate_left
          · (intro w hSw; (try dsimp only at hSw); go_simp; try with_reducible rfl)
          try simp only [Act.put, List.setIfInBounds_toArray, List.set_cons_succ, List.set_cons_zero]
          refine wpAnyH_ready (rs := [15]) (by kernel_rfl) (by simp) ?_
          refine AllReadyH.cons rfl (fun K hK => ?_) AllReadyH.nil
          go_simp
          (try rw [HWR.out]); refine (l8Put_any g c2 F ((scAt a k).1, clampS ((scAt a k).2 + scNum b (scAt a k).1)) w.heap.size wr.drew hoD hFl).mono ?_; rintro e w5 ⟨x5, rfl, ho5, hb5⟩
          refine hK.out _ _ ?_ (fun hHeld => ?_)
          · exact HCC.out _ ((Below.refl _ wr).drew.trans hb5)
          clear hK K
          try simp only [Act.put, List.setIfInBounds_toArray, List.set_cons_succ, List.set_cons_zero]
          refine takeH (i := 16) (d := (some 5)) (v := ?_) rfl rfl (by kernel_rfl) (by kernel_rfl) (by kernel_rfl) (fun _ _ _ h => h) (by kernel_rfl) ?_ (by assumption) ?_
          rotate_left
          · (intro w hSw; (try dsimp only at hSw); go_simp; try with_reducible rfl)
          try simp only [Act.put, List.setIfInBounds_toArray, List.set_cons_succ, List.set_cons_zero]
          refine wpAnyH_done (by kernel_rfl) ?_ _
          have hb5' : Below wr.heap.size wr w5 := (Below.refl _ wr).drew.trans hb5
          have hB5 := hB.trans (hb5'.mono hB.size)
          have ho5' : ScOwns w5 w.heap.size x5 (scIns F (fB b (scAt a k))) := ownsR_base ho5 (show w.heap.size ≤ wr.drew.heap.size from hB.size)
          rw [← HST.out] at ho5'
          clear hb5 hb5' hB ho5 hHeld c00 c10 HCC hoF hoD
          obtain ⟨g5, c5, hx5⟩ := scOwn_some ho5' (by rw [HL.out]; omega)
          subst hx5
          go_wp2_with fail
          go_roundw
          case rel => exact ⟨k + 1, hlt, by go_num, hB5, g5, c5, _, by show _ = _; rfl, rfl, ho5'⟩
          case measure => simp [intOf]; omega
        · obtain rfl : k = a.length := by omega
          have HF2 : Hid (scFoldF [] (anyTo2 a b 0) = F) := by show _ = _; rw [← anyTo1_end]; exact HF.out
          clear HF
          go_wp2_with fail
          go_loopw [5, 9] (fun o i wr => ∃ k : Nat, k ≤ b.length ∧ i = .int .i64 (k : Int) ∧ Below w.heap.size w wr ∧ ∃ g c2 F, Hid (scFoldF [] (anyTo2 a b k) = F) ∧ o = .slice (some ⟨g, 0, none⟩) F.length c2 ∧ ScOwns wr w.heap.size (.slice (some ⟨g, 0, none⟩) F.length c2) F) (fun _ i _ => b.length - (intOf i).toNat)
          case atStart => exact ⟨0, Nat.zero_le _, rfl, hB, _, _, F, HF2, rfl, hoF⟩
          case round =>
            clear hB hoF HF2 hFl
            obtain ⟨k, hk, rfl, hB, g, c2, F, HF, rfl, hoF⟩ := hrel
            have hFl : F.length ≤ 1048576 := by have := anyTo2_len a b k; rw [HF.out] at this; omega
            by_cases hlt : k < b.length
            · obtain ⟨b0, off, rfl, hb0, hnc, hcm, hc⟩ := sc_some hq (by omega)
              obtain ⟨c0, c1⟩ := sc_cell_kept (sc_cells hc hlt) hB hb0
              have hk1 : (k : Int) < (b.length : Int) := by omega
              go_wp2_with fail
              refine (l8Num_any _ a (scAt b k).1 _ (readsR_kept hr hB) ha).mono ?_
              rintro e w4 ⟨rfl, rfl⟩
              cases hh : scHas a (scAt b k).1 with
              | true =>
                have HM : Hid (scFoldF [] (anyTo2 a b (k + 1)) = F) := by show _ = _; rw [anyTo2_miss hlt hh]; exact HF.out
                clear hh hc
                go_wp2_with fail
                go_roundw
                case rel => exact ⟨k + 1, hlt, by go_num, hB, g, c2, F, HM, rfl, hoF⟩
                case measure => simp [intOf]; omega
              | false =>
                have HST : Hid (scFoldF [] (anyTo2 a b (k + 1)) = scIns F (scAt b k)) := by show _ = _; rw [anyTo2_hit hlt hh, HF.out]
                have HL : Hid ((scFoldF [] (anyTo2 a b (k + 1))).length = F.length + 1) := by show _ = _; rw [HST.out, scIns_len]
                clear hh hc
                go_wp2_with fail
                refine (l8Put_any g c2 F (scAt b k) w.heap.size _ hoF hFl).mono ?_
                rintro e w5 ⟨x5, rfl, ho5, hb5⟩
                have hB5 := hB.trans (hb5.mono hB.size)
                have ho5' : ScOwns w5 w.heap.size x5 (scIns F (scAt b k)) := ownsR_base ho5 hB.size
                rw [← HST.out] at ho5'
                clear hb5 hB ho5 hoF
                obtain ⟨g5, c5, hx5⟩ := scOwn_some ho5' (by rw [HL.out]; omega)
                subst hx5
                go_wp2_with fail
                go_roundw
                case rel => exact ⟨k + 1, hlt, by go_num, hB5, g5, c5, _, by show _ = _; rfl, rfl, ho5'⟩
                case measure => simp [intOf]; omega
            · obtain rfl : k = b.length := by omega
              go_wp2_with fail
              go_ret
              exact ⟨_, rfl, by rw [HR.out, HF.out]; exact hoF, hB⟩
end Go.Proofs.Ytndegickekjkjaa
