/- Rows of entries whose outer block may lie anywhere: marked whole. That it is none of its entries' lists its type tells. -/
import Derived.Test.YtnaklhompdcgeaaMkW
namespace Go.Proofs.Ytnaklhompdcgeaa
open Go.RowKit
set_option linter.unusedVariables false

theorem ownsR_row {w : World} {base g n cap : Nat} {M : List Row} (h : OwnsR rowC 7 43 w base (.slice (some ⟨g, 0, none⟩) n cap) M) : ∃ cs, w.heap[g]? = some (.cells cs 43 (0, 0)) := by
  rcases h.2 with ⟨hv, _⟩ | ⟨g', cap', cur, hv, _, hrow, _⟩
  · simp at hv
  · simp only [Value.slice.injEq, Option.some.injEq, Addr.mk.injEq, and_true] at hv
    obtain ⟨rfl, _⟩ := hv
    exact ⟨cur, hrow⟩
theorem ownR_ne {α : Type} {c : α → List Value} {sz : Nat} {t : TypeId} (ht : t ≠ 43) {w : World} {lo hi g : Nat} {v : Value} {l : List α} (hg : ∃ cs, w.heap[g]? = some (.cells cs 43 (0, 0))) (h : OwnR c sz t w lo hi v l) : v.ownBlock ≠ some g := by
  intro e
  obtain ⟨cs, hg⟩ := hg
  rcases h.1.2 with ⟨hv, _⟩ | ⟨g', cap', cur, hv, _, hrow, _⟩
  · rw [hv] at e; cases e
  · rw [hv] at e
    have e2 : g' = g := by simpa [Value.ownBlock] using e
    rw [e2, hg] at hrow
    simp only [Option.some.injEq, Obj.cells.injEq] at hrow
    exact ht hrow.2.1.symm
theorem own_ne {w : World} {lo hi g : Nat} {v : Value} {l : List ByteArray} (hg : ∃ cs, w.heap[g]? = some (.cells cs 43 (0, 0))) (h : Own w lo hi v l) : v.ownBlock ≠ some g := by
  intro e
  obtain ⟨cs, hg⟩ := hg
  rcases h.1.2 with ⟨hv, _⟩ | ⟨g', cap', cur, hv, _, hrow, _⟩
  · rw [hv] at e; cases e
  · rw [hv] at e
    have e2 : g' = g := by simpa [Value.ownBlock] using e
    rw [e2, hg] at hrow
    simp only [Option.some.injEq, Obj.cells.injEq] at hrow
    have : (43 : Nat) = 9 := hrow.2.1
    omega
theorem ownsR_ne {w w' : World} {base g n cap : Nat} {M : List Row} {r : Option Nat} (h : OwnsR rowC 7 43 w base (.slice (some ⟨g, 0, none⟩) n cap) M) (hg : w.grownBy w' r) (hr : r ≠ some g) : OwnsR rowC 7 43 w' base (.slice (some ⟨g, 0, none⟩) n cap) M :=
  World.ownsRow.kept h hg (.inr (fun e => hr e.symm))
theorem enOwn_at {w w' : World} {g a m : Nat} {vl vs vf : Value} {e : Ent} (h : EnOwn w a m vl vs vf e) (hw : Within w w' g (g + 1)) (hg : ∃ cs, w.heap[g]? = some (.cells cs 43 (0, 0))) : EnOwn w' a m vl vs vf e := by
  obtain ⟨x, y, h1, h2, h3, h4, h5, h6⟩ := h
  have f : ∀ b, b < w.heap.size → b ≠ g → w'.heap[b]? = w.heap[b]? := fun b hb hne => hw.block b hb (by omega)
  refine ⟨x, y, h1, h2, h3, ⟨ownsRow_block h4.1 fun b hb => f b (h4.1.lt b hb).2 ?_, h4.2⟩, ⟨ownsRow_block h5.1 fun b hb => f b (World.ownsRow.lt h5.1 b hb).2 ?_, h5.2⟩, ⟨ownsRow_block h6.1 fun b hb => f b (World.ownsRow.lt h6.1 b hb).2 ?_, h6.2⟩⟩
  · intro e2; exact own_ne hg h4 (by rw [hb, e2])
  · intro e2; exact ownR_ne (by decide) hg h5 (by rw [hb, e2])
  · intro e2; exact ownR_ne (by decide) hg h6 (by rw [hb, e2])
theorem ensOwn_at {w w' : World} {g lo hi : Nat} {l : List Row} (h : EnsOwn w lo hi l) (hw : Within w w' g (g + 1)) (hg : ∃ cs, w.heap[g]? = some (.cells cs 43 (0, 0))) : EnsOwn w' lo hi l :=
  ensOwn_map (fun _ => True) (fun _ h => enOwn_at h hw hg) (fun _ _ => trivial) trivial h

set_option maxRecDepth 100000 in
set_option maxHeartbeats 8000000 in
theorem markAllX_any (v : Value) (l : List Row) (lo hi : Nat) (w : World) (ho : OwnR rowC 7 43 w lo hi v l) (hin : EnsOwn w lo hi l) (hhi : hi ≤ w.heap.size) (hm : rowsM l ≤ 4194304) (hs : ∀ x ∈ l, EnSmall x.e) :
    Calls Try.prog 22 #[v, .int .i64 1] w fun x w' => x = .returned (.int .i64 (1 + rowsM l)) ∧ OwnR rowC 7 43 w' lo hi v (mkRows 1 l) ∧ EnsOwn w' lo hi (mkRows 1 l) ∧ Within w w' lo hi := by
  have hN := rowsN_M l
  obtain ⟨ao, cap, rfl⟩ := readsR_shape (ownR_reads rowC_len ho)
  by_cases h0 : 0 < l.length
  · obtain ⟨g, cs, rfl, hg1, hg2, hrow, hnc, hcm, hcs⟩ := rows_block ho h0
    have hmlen : (l.length : Int) ≤ 4194304 := by have := rowsM_len l; omega
    have HO0 : OwnsR rowC 7 43 w lo (.slice (some ⟨g, 0, none⟩) l.length cap) (mkRows 1 (l.take 0) ++ l.drop 0) := ho.1
    have HI0 : EnsOwn w lo hi (l.drop 0) := hin
    have hlohi : lo ≤ hi := by omega
    clear ho hin hrow hcs
    go_enter Try.func22, Try.ntmps22
    go_wp2_with fail
    go_loopw [1, 5] (fun c i wr => ∃ (j a : Nat), j ≤ l.length ∧ i = .int .i64 j ∧ c = .int .i64 ((1 + rowsN (l.take j) : Nat) : Int) ∧ lo ≤ a ∧ Hid (OwnsR rowC 7 43 wr lo (.slice (some ⟨g, 0, none⟩) l.length cap) (mkRows 1 (l.take j) ++ l.drop j)) ∧ Hid (EnsOwn wr lo a (mkRows 1 (l.take j))) ∧ EnsOwn wr a hi (l.drop j) ∧ Within w wr lo hi) (fun _ i _ => l.length - (intOf i).toNat)
    case atStart => exact ⟨0, lo, Nat.zero_le _, rfl, rfl, Nat.le_refl _, HO0, Nat.le_refl lo, HI0, within_refl _ _ _⟩
    case round =>
      obtain ⟨j, a, hj, rfl, rfl, ham, HO, HD, hE, hW⟩ := hrel
      by_cases hlt : j < l.length
      · have hjl : (j : Int) < (l.length : Int) := by omega
        have hsm := hs _ (esAt_mem hlt)
        have hrt := rowsN_take l j
        rw [drop_es hlt] at hE hrt
        obtain ⟨b, hab, hX, hE⟩ := hE
        have hbi := ensOwn_le hE
        have hstep : rowsN (l.take (j + 1)) = rowsN (l.take j) + rowN (esAt l j) := by rw [take_es hlt, rowsN_snoc]
        have HST : Hid _ := hstep
        obtain ⟨k, hk⟩ : ∃ k, 1 + rowsN (l.take j) = k := ⟨_, rfl⟩
        have HKK : Hid (1 + rowsN (l.take j) = k) := hk
        have hkb : (k : Int) + (4 + ((esAt l j).e.list.length : Int) + 2 * ((esAt l j).e.scores.length : Int) + 2 * ((esAt l j).e.fields.length : Int)) ≤ 4194305 := by
          have hrt2 : rowsN (l.take j) + (rowN (esAt l j) + rowsN (l.drop (j + 1))) = rowsN l := hrt
          unfold rowN at hrt2
          omega
        have hk0 : (0 : Int) < (k : Int) := by omega
        rw [hk]
        have hMl : (mkRows 1 (l.take j) ++ l.drop j).length = l.length := row_len hj
        have HM : Hid ((mkRows 1 (l.take j) ++ l.drop j)[j]? = some (esAt l j)) := row_mid hlt
        obtain ⟨M, hMM⟩ : ∃ M, mkRows 1 (l.take j) ++ l.drop j = M := ⟨_, rfl⟩
        have HMM : Hid (mkRows 1 (l.take j) ++ l.drop j = M) := hMM
        rw [hMM] at HO HM hMl
        rw [← hMl] at HO
        clear hrt hstep hk hMM
        go_wp2_with fail
        refine (mark_any k _ hk0 (by omega)).mono ?_
        rintro e w1 ⟨rfl, hb1⟩
        have HO1 : Hid _ := ownsR_kept HO.out hb1
        have HD1 : Hid _ := ensOwn_kept HD.out hb1
        have hX1 := enOwn_kept hX hb1
        have hE1 := ensOwn_kept hE hb1
        have hW1 := within_trans hW (within_below hb1 lo hi)
        clear hb1 HO HD hX hE hW
        have c0 : w1.cell? ⟨g, j * 7, none⟩ = _ := cellR rowC_len HO1.out HM.out 0 _ rfl
        have c1 : w1.cell? ⟨g, j * 7 + 1, none⟩ = _ := cellR rowC_len HO1.out HM.out 1 _ rfl
        have c2 : w1.cell? ⟨g, j * 7 + 2, none⟩ = _ := cellR rowC_len HO1.out HM.out 2 _ rfl
        have fz := fun o => World.ownsRow.frozenAt HO1.out o
        go_wp2_with fail
        have HO2 : Hid _ := store3 HO1.out HM.out (mk k) ((k : Int) + 1) ((k : Int) + 1 + 1)
        have S2 : Within w1 (((w1.setCell ⟨g, j * 7, none⟩ (.string (mk k))).setCell ⟨g, j * 7 + 1, none⟩ (.int .i64 ((k : Int) + 1))).setCell ⟨g, j * 7 + 2, none⟩ (.int .i64 ((k : Int) + 1 + 1))) g (g + 1) := within_set (within_set (within_set (within_refl w1 g (g + 1)) g (j * 7) _ (Nat.le_refl _) (Nat.lt_succ_self _)) g (j * 7 + 1) _ (Nat.le_refl _) (Nat.lt_succ_self _)) g (j * 7 + 2) _ (Nat.le_refl _) (Nat.lt_succ_self _)
        have N1 := ownsR_row HO1.out
        have hX2 := enOwn_at hX1 S2 N1
        have hE2 := ensOwn_at hE1 S2 N1
        have HD2 : Hid _ := ensOwn_at HD1.out S2 N1
        have hW2 := within_trans hW1 (within_mono S2 hg1 (by omega))
        clear c0 c1 c2 fz HO1 HD1 hX1 hE1 hW1 S2 N1
        obtain ⟨w2, hWW⟩ : ∃ W, ((w1.setCell ⟨g, j * 7, none⟩ (.string (mk k))).setCell ⟨g, j * 7 + 1, none⟩ (.int .i64 ((k : Int) + 1))).setCell ⟨g, j * 7 + 2, none⟩ (.int .i64 ((k : Int) + 1 + 1)) = W := ⟨_, rfl⟩
        rw [hWW] at HO2 hX2 hE2 HD2 hW2 ⊢
        clear hWW
        refine (mark_any _ _ (by omega) (by omega)).mono ?_
        rintro e w3 ⟨rfl, hb3⟩
        have HO3 : Hid _ := ownsR_kept HO2.out hb3
        have HD3 : Hid _ := ensOwn_kept HD2.out hb3
        have hX3 := enOwn_kept hX2 hb3
        have hE3 := ensOwn_kept hE2 hb3
        have hW3 := within_trans hW2 (within_below hb3 lo hi)
        clear hb3 HO2 HD2 hX2 hE2 hW2
        have HM3 : Hid _ := set_at (y := rowK (esAt l j) (mk k) ((k : Int) + 1) ((k : Int) + 1 + 1)) HM.out
        have hl3 : (M.set j (rowK (esAt l j) (mk k) ((k : Int) + 1) ((k : Int) + 1 + 1))).length = M.length := List.length_set
        rw [← hl3] at HO3
        have c3 : w3.cell? ⟨g, j * 7 + 3, none⟩ = _ := cellR rowC_len HO3.out HM3.out 3 _ rfl
        have c4 : w3.cell? ⟨g, j * 7 + 4, none⟩ = some (.slice (esAt l j).al (esAt l j).e.list.length (esAt l j).cl) := cellR rowC_len HO3.out HM3.out 4 _ rfl
        have fz := fun o => World.ownsRow.frozenAt HO3.out o
        go_wp2_with fail
        have hst := store1 HO3.out HM3.out (mk ((k : Int) + 1 + 1 + 1))
        rw [List.set_set, hl3] at hst
        have HO4 : Hid _ := hst
        have S4 : Within w3 (w3.setCell ⟨g, j * 7 + 3, none⟩ (.string (mk ((k : Int) + 1 + 1 + 1)))) g (g + 1) := within_set (within_refl w3 g (g + 1)) g (j * 7 + 3) _ (Nat.le_refl _) (Nat.lt_succ_self _)
        have N3 := ownsR_row HO3.out
        have hX4 := enOwn_at hX3 S4 N3
        have hE4 := ensOwn_at hE3 S4 N3
        have HD4 : Hid _ := ensOwn_at HD3.out S4 N3
        have hW4 := within_trans hW3 (within_mono S4 hg1 (by omega))
        clear c3 c4 fz hst HO3 HD3 hX3 hE3 hW3 S4 HM3 hl3 N3
        obtain ⟨w4, hWW⟩ : ∃ W, w3.setCell ⟨g, j * 7 + 3, none⟩ (.string (mk ((k : Int) + 1 + 1 + 1))) = W := ⟨_, rfl⟩
        rw [hWW] at HO4 hX4 hE4 HD4 hW4 ⊢
        clear hWW
        have hcg : rowC (rowT (rowK (esAt l j) (mk k) ((k : Int) + 1) ((k : Int) + 1 + 1)) (mk ((k : Int) + 1 + 1 + 1))) = rowC (mkRow k (esAt l j)) := by
          unfold rowC rowT rowK mkRow mkEnt
          rw [marks_len, scMarks_len, prMarks_len]
        have HO5 : Hid (OwnsR rowC 7 43 w4 lo (.slice (some ⟨g, 0, none⟩) l.length cap) (mkRows 1 (l.take (j + 1)) ++ l.drop (j + 1))) := by
          have := HO4.out
          unfold OwnsR at this ⊢
          rw [List.length_set, flat_cong hcg, hMl] at this
          rw [← HMM.out, row_put hlt (by rw [HKK.out])] at this
          rw [row_len hlt]
          exact this
        clear HO4 hcg HM HMM hMl
        obtain ⟨A, B, hA1, hA2, hA3, hl4, hc4, hf4⟩ := hX4
        have hn1 := hsm.list
        have hn2 := hsm.scores
        have hn3 := hsm.fields
        have HJ : Hid ((mkRows 1 (l.take (j + 1)) ++ l.drop (j + 1))[j]? = some (mkRow k (esAt l j))) := by
          have := row_put_at (k := 1) hlt
          rw [HKK.out] at this; exact this
        have HL : Hid ((mkRows 1 (l.take (j + 1)) ++ l.drop (j + 1)).length = l.length) := row_len hlt
        refine (mark_own_from _ (esAt l j).e.list a A _ _ hl4 (by omega) (by omega) hsm.list).mono ?_
        rintro e w5 ⟨rfl, hl5, hg5⟩
        have V5 := within_grown hg5 (own_in hl4)
        have HO6 : Hid _ := ownsR_ne HO5.out hg5 (own_ne (ownsR_row HO5.out) hl4)
        have HD5 : Hid _ := ensOwn_before V5 (Nat.le_refl _) HD4.out
        have hE5 := ensOwn_within hE4 V5 (by omega)
        have hc5 := ownR_within hc4 V5 (.inr (Nat.le_refl _))
        have hf5 := ownR_within hf4 V5 (.inr hA2)
        have hW5 := within_trans hW4 (within_mono V5 (by omega) (by omega))
        clear hg5 V5 HO5 HD4 hE4 hl4 hc4 hf4 hW4
        have c5 := (mkRow_cells HO6.out HL.out HJ.out).1
        go_wp2_with fail
        refine (markScore_own _ (esAt l j).e.scores A B _ _ hc5 (by omega) (by omega) hsm.scores).mono ?_
        rintro e w6 ⟨rfl, hc6, hg6⟩
        have V6 := within_grown hg6 (ownR_in hc5)
        have HO7 : Hid _ := ownsR_ne HO6.out hg6 (ownR_ne (by decide) (ownsR_row HO6.out) hc5)
        have HD6 : Hid _ := ensOwn_before V6 hA1 HD5.out
        have hE6 := ensOwn_within hE5 V6 (by omega)
        have hl6 := own_within hl5 V6 (.inl (Nat.le_refl _))
        have hf6 := ownR_within hf5 V6 (.inr (Nat.le_refl _))
        have hW6 := within_trans hW5 (within_mono V6 (by omega) (by omega))
        clear hg6 V6 HO6 HD5 hE5 hl5 hc5 hf5 hW5 c5
        have c6 := (mkRow_cells HO7.out HL.out HJ.out).2
        go_wp2_with fail
        refine (markPair_own _ (esAt l j).e.fields B b _ _ hf6 (by omega) (by omega) hsm.fields).mono ?_
        rintro e w7 ⟨rfl, hf7, hg7⟩
        have V7 := within_grown hg7 (ownR_in hf6)
        have HO8 : Hid _ := ownsR_ne HO7.out hg7 (ownR_ne (by decide) (ownsR_row HO7.out) hf6)
        have HD7 : Hid _ := ensOwn_before V7 (Nat.le_trans hA1 hA2) HD6.out
        have hE7 := ensOwn_within hE6 V7 (Nat.le_refl _)
        have hl7 := own_within hl6 V7 (.inl hA2)
        have hc7 := ownR_within hc6 V7 (.inl (Nat.le_refl _))
        have hW7 := within_trans hW6 (within_mono V7 (by omega) (by omega))
        clear hg7 V7 HO7 HD6 hE6 hl6 hc6 hf6 hW6 c6
        have t1 : ((k : Int) + 1 + 1 + 1 + 1).toNat = k + 4 := by omega
        have t2 : ((k : Int) + 1 + 1 + 1 + 1 + ((esAt l j).e.list.length : Int)).toNat = k + 4 + (esAt l j).e.list.length := by omega
        have t3 : ((k : Int) + 1 + 1 + 1 + 1 + ((esAt l j).e.list.length : Int) + 2 * ((esAt l j).e.scores.length : Int)).toNat = k + 4 + (esAt l j).e.list.length + 2 * (esAt l j).e.scores.length := by omega
        rw [t1] at hl7
        rw [t2] at hc7
        rw [t3] at hf7
        have hxx : EnOwn w7 a b (mkRow k (esAt l j)).vl (mkRow k (esAt l j)).vs (mkRow k (esAt l j)).vf (mkRow k (esAt l j)).e := by
          have e1 : (mkRow k (esAt l j)).vl = .slice (esAt l j).al (esAt l j).e.list.length (esAt l j).cl := by
            show Value.slice (esAt l j).al (marks (k + 4) (esAt l j).e.list.length).length (esAt l j).cl = _
            rw [marks_len]
          have e2 : (mkRow k (esAt l j)).vs = .slice (esAt l j).as_ (esAt l j).e.scores.length (esAt l j).cs := by
            show Value.slice (esAt l j).as_ (scMarks _ (esAt l j).e.scores.length).length (esAt l j).cs = _
            rw [scMarks_len]
          have e3 : (mkRow k (esAt l j)).vf = .slice (esAt l j).af (esAt l j).e.fields.length (esAt l j).cf := by
            show Value.slice (esAt l j).af (prMarks _ (esAt l j).e.fields.length).length (esAt l j).cf = _
            rw [prMarks_len]
          rw [e1, e2, e3]
          exact ⟨A, B, hA1, hA2, hA3, hl7, hc7, hf7⟩
        have HD8 : Hid (EnsOwn w7 lo b (mkRows 1 (l.take (j + 1)))) := by
          show EnsOwn w7 lo b (mkRows 1 (l.take (j + 1)))
          rw [take_es hlt, mkRows_snoc, HKK.out]
          exact ensOwn_snoc HD7.out hxx
        have hkk : ((1 + rowsN (l.take (j + 1)) : Nat) : Int) = (k : Int) + 1 + 1 + 1 + 1 + ((esAt l j).e.list.length : Int) + 2 * ((esAt l j).e.scores.length : Int) + 2 * ((esAt l j).e.fields.length : Int) := by
          have h1 := HST.out
          have h2 := HKK.out
          rw [h1]
          unfold rowN
          omega
        have HKN : Hid _ := hkk
        clear hl7 hc7 hf7 hxx HD7 hkk
        have hlt' := hlt
        go_wp2_with fail
        go_roundw
        case rel => exact ⟨j + 1, b, hlt', by go_num, by rw [HKN.out], by omega, HO8, HD8, hE7, hW7⟩
        case measure => simp [intOf]; omega
      · obtain rfl : j = l.length := by omega
        go_wp2_with fail
        go_ret
        have h1 := HO.out
        have h2 := HD.out
        rw [row_all] at h1
        rw [List.take_length] at h2
        have hah : a ≤ hi := by rw [List.drop_length] at hE; exact hE
        refine ⟨by rw [List.take_length, ← hN]; push_cast; rfl, ⟨by unfold OwnsR at h1 ⊢; rw [mkRows_len] at h1 ⊢; exact h1, fun k hk => ?_⟩, ensOwn_up h2 hah, hW⟩
        have : g = k := by simpa [Value.ownBlock] using hk
        omega
  · obtain rfl : l = [] := List.length_eq_zero_iff.1 (by omega)
    go_enter Try.func22, Try.ntmps22
    go_wp2_with fail
    refine wp_loop_rounds 1 ?_
    rw [rounds_succ]
    go_wp2_with fail
    go_ret
    exact ⟨by unfold rowsM; rfl, ho, hin, within_refl _ _ _⟩
end Go.Proofs.Ytnaklhompdcgeaa
