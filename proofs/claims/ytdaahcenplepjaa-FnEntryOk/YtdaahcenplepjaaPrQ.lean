/- FieldsPut: the model's. -/
import Derived.Test.YtdaahcenplepjaaPrP
import Derived.Test.YtdaahcenplepjaaPrPo
import Derived.Test.YtdaahcenplepjaaAq
import Derived.Test.YtdaahcenplepjaaTk
namespace Go.Proofs.Ytdaahcenplepjaa
open Go.RowKit

def prPutL (l : List (ByteArray × ByteArray)) (y : ByteArray × ByteArray) : List (ByteArray × ByteArray) := if prThere l y.1 = true then l.set (prPos l y.1) y else l.take (prPos l y.1) ++ y :: l.drop (prPos l y.1)
def prPutB (l : List (ByteArray × ByteArray)) (y : ByteArray × ByteArray) : Bool := prOkB l && prOkB (prPutL l y)
def prPutF (l : List (ByteArray × ByteArray)) (y : ByteArray × ByteArray) : Bool := prPutB l y && !prThere l y.1
def prPutR (l : List (ByteArray × ByteArray)) (y : ByteArray × ByteArray) : List (ByteArray × ByteArray) := if prOkB l = true then (if prOkB (prPutL l y) = true then prPutL l y else l) else []
theorem pr_one_at {w : World} {B : Nat} {y : ByteArray × ByteArray} {t : TypeId} {fr : Nat × Nat} (h : w.heap[B]? = some (.cells #[.string y.1, .string y.2] t fr)) : ReadsR prC 2 w (.slice (some ⟨B, 0, none⟩) 1 1) [y] := by
  refine .inr ⟨by simp, B, 0, 1, rfl, (Array.getElem?_eq_some_iff.1 h).1, by simp, by unfold maxLen; omega, fun k x hk => ?_⟩
  match k, hk with
  | 0, hk =>
    cases hk
    intro j u hu
    rw [Nat.zero_mul, Nat.zero_add, cell_of_row _ _ _ _ _ _ h]
    match j, hu with
    | 0, hu => cases hu; rfl
    | 1, hu => cases hu; rfl
    | j + 2, hu => simp [prC] at hu
  | k + 1, hk => simp at hk
set_option maxHeartbeats 16000000 in
set_option maxRecDepth 20000 in
theorem specFieldsPut_any (v : Value) (l : List (ByteArray × ByteArray)) (y : ByteArray × ByteArray) (w : World) (hr : PrReads w v l) (hlen : l.length ≤ 1048576) :
    Calls Try.prog 33 #[v, .agg #[.string y.1, .string y.2]] w fun e w' => ∃ x, e = .returned (.tuple #[x, .bool (prPutF l y), .bool (prPutB l y)]) ∧ PrOwns w' w.heap.size x (prPutR l y) ∧ Below w.heap.size w w' := by
  obtain ⟨i0, hi0, hz0, hz1, hz2⟩ := info_parts prInfo
  obtain ⟨ao, cap, rfl⟩ := readsR_shape hr
  obtain ⟨W0, hW0⟩ : ∃ W0, w.alloc (.cells #[.string y.1, .string y.2] 65) = W0 := ⟨_, rfl⟩
  have hB0 : Below w.heap.size w W0 := by rw [← hW0]; exact (Below.refl _ w).alloc (Nat.le_refl _) _
  have hz0' : w.heap.size + 1 ≤ W0.heap.size := by rw [← hW0]; simp
  have hp : W0.cell? ⟨w.heap.size, 0, none⟩ = some (.string y.1) ∧ W0.cell? ⟨w.heap.size, 0 + 1, none⟩ = some (.string y.2) := by
    rw [← hW0]; exact ⟨by rw [cell_of_row _ _ _ _ _ _ (heap_alloc_new w _)]; rfl, by rw [cell_of_row _ _ _ _ _ _ (heap_alloc_new w _)]; rfl⟩
  go_enter Try.func33, Try.ntmps33
  go_wp2_with fail
  clear hW0
  refine (specFieldsOk_any _ l _ (readsR_kept hr hB0) hlen).mono ?_
  rintro e w1 ⟨rfl, hb1⟩
  have hsz1 := hb1.size
  have hB1 := hB0.trans (hb1.mono hB0.size)
  have hp1 := pr_cell_kept hp hb1 (by omega)
  clear hp hb1 hB0
  cases hok : prOkB l with
  | false =>
    have HR : Hid (prPutR l y = []) := by show _ = _; unfold prPutR; rw [hok]; rfl
    have HB : Hid (prPutB l y = false) := by show _ = _; unfold prPutB; rw [hok]; rfl
    have HF : Hid (prPutF l y = false) := by show _ = _; unfold prPutF; rw [HB.out]; rfl
    have ho1 : PrOwns (w1.alloc (.cells #[] 65)) w.heap.size (.slice (some ⟨w1.heap.size, 0, none⟩) 0 0) [] := World.ownsRow_lit w1 #[] 0 (by omega) (by simp) rfl
    have hB2 : Below w.heap.size w (w1.alloc (.cells #[] 65)) := hB1.alloc (by omega) _
    clear hok
    go_wp2_with fail
    go_ret3
    exact ⟨_, by rw [HF.out, HB.out]; rfl, by rw [HR.out]; exact ho1, hB2⟩
  | true =>
    have hn16 : l.length ≤ 16 := by unfold prOkB at hok; rw [Bool.and_eq_true] at hok; simpa using hok.1
    have HOK : Hid (prOkB l = true) := hok
    have hc0 := hp1.1
    clear hok
    go_wp2_with fail
    refine (l3At_any _ l y.1 _ (readsR_kept hr hB1) hlen).mono ?_
    rintro e w2 ⟨rfl, hb2⟩
    have hsz2 := hb2.size
    have hB2 := hB1.trans (hb2.mono (by omega))
    have hp2 := pr_cell_kept hp1 hb2 (by omega)
    have hr2 := readsR_kept hr hB2
    have hB2z := hB2.size
    have ho0 : (w2.alloc (.cells #[] 65)).ownsRow w.heap.size 65 2 (.slice (some ⟨w2.heap.size, 0, none⟩) 0 0) 0 [] := World.ownsRow_lit w2 #[] 0 (by omega) (by simp) rfl
    have hb0 : Below w2.heap.size w2 (w2.alloc (.cells #[] 65)) := (Below.refl w2.heap.size w2).alloc (Nat.le_refl _) (.cells #[] 65)
    have hr3 := readsR_kept hr2 hb0
    clear hc0 hp1 hb2 hB1
    go_wp2_with (at_builtin; refine append_R (c := prC) rfl (.tmp 21) (.tmp 22) 25 rfl w.heap.size 65 i0 _ 2 32 Try.underlying25 hi0 hz0 hz1 hz2 rfl (by decide) _ _ _ rfl ho0 _ rfl l hr3 prC_len prC_one (by unfold maxLen; omega) (by omega) (by simp; omega) ?_)
    intro x4 w4 hown4 hgrow4
    have ho4 : PrOwns w4 w.heap.size x4 l := by unfold PrOwns OwnsR; simpa using hown4
    have hb4 : Below w2.heap.size w2 w4 := hb0.grown hgrow4 (by simp) (fun j hj => by cases hj; exact Nat.le_refl _)
    have hB4 : Below w.heap.size w w4 := hB2.trans (hb4.mono hB2z)
    have hz4 := hb4.size
    have hp4 := pr_cell_kept hp2 hb4 (by omega)
    clear hown4 hgrow4 ho0 hb0 hr3 hp2 hB2 hr2 hb4
    obtain ⟨hq0, hq1⟩ := hp4
    cases ht : prThere l y.1 with
    | true =>
      have hlt : prPos l y.1 < l.length := by unfold prThere at ht; simp only [Bool.and_eq_true, decide_eq_true_eq] at ht; exact ht.1
      have HPL : Hid (prPutL l y = l.set (prPos l y.1) y) := by show _ = _; unfold prPutL; rw [ht]; rfl
      have HTH : Hid ((!prThere l y.1) = false) := by show _ = _; rw [ht]; rfl
      clear ht
      obtain ⟨g, c4, hxv⟩ : ∃ g c4, x4 = .slice (some ⟨g, 0, none⟩) l.length c4 := by
        rcases ownsR_form ho4 with ⟨h0, _⟩ | ⟨_, g, c, hv⟩
        · rw [h0] at hlt; simp at hlt
        · exact ⟨g, c, hv⟩
      subst hxv
      generalize prPos l y.1 = k at *
      have hkl : (k : Int) < (l.length : Int) := by omega
      have s0 : w4.cell? ⟨g, k * 2, none⟩ = _ := cellR prC_len ho4 (prAt_some hlt) 0 _ rfl
      have s1 : w4.cell? ⟨g, k * 2 + 1, none⟩ = _ := cellR prC_len ho4 (prAt_some hlt) 1 _ rfl
      have f0 := World.ownsRow.frozenAt ho4 (k * 2)
      have f1 := World.ownsRow.frozenAt ho4 (k * 2 + 1)
      have hst := ownsR_store2 prC_len ho4 k _ y (.string y.1) (.string y.2) (prAt_some hlt) rfl
      obtain ⟨w7, hw7⟩ : ∃ w7, (w4.setCell ⟨g, k * 2, none⟩ (.string y.1)).setCell ⟨g, k * 2 + 1, none⟩ (.string y.2) = w7 := ⟨_, rfl⟩
      rw [hw7] at hst
      have hB7 : Below w.heap.size w w7 := hB4.grown hst.2 hB4.size (fun j hj => by cases hj; exact (World.ownsRow.lt ho4 g rfl).1)
      have hoF : PrOwns w7 w.heap.size (.slice (some ⟨g, 0, none⟩) l.length c4) (l.set k y) := hst.1
      have hb7z := hB7.size
      have hinl : (l.set k y).length ≤ 17 := by rw [List.length_set]; omega
      clear hst ho4 hB4
      generalize l.set k y = O at *
      go_wp2_with fail
      refine (specFieldsOk_any _ O _ (ownsR_reads prC_len hoF) (by omega)).mono ?_
      rintro e w8 ⟨rfl, hb8⟩
      have hB8 := hB7.trans (hb8.mono hb7z)
      have ho8 := ownsR_kept hoF hb8
      have hz8 := hB8.size
      clear hb8 hoF hB7
      cases hok2 : prOkB O with
      | true =>
        have HR : Hid (prPutR l y = O) := by show _ = _; unfold prPutR; rw [HOK.out, HPL.out, hok2]; rfl
        have HB : Hid (prPutB l y = true) := by show _ = _; unfold prPutB; rw [HOK.out, HPL.out, hok2]; rfl
        have HF : Hid (prPutF l y = !prThere l y.1) := by show _ = _; unfold prPutF; rw [HB.out]; rfl
        clear hok2
        go_wp2_with fail
        go_ret3
        exact ⟨_, by rw [HF.out, HTH.out, HB.out]; rfl, by rw [HR.out]; exact ho8, hB8⟩
      | false =>
        have HR : Hid (prPutR l y = l) := by show _ = _; unfold prPutR; rw [HOK.out, HPL.out, hok2]; rfl
        have HB : Hid (prPutB l y = false) := by show _ = _; unfold prPutB; rw [HOK.out, HPL.out, hok2]; rfl
        have HF : Hid (prPutF l y = false) := by show _ = _; unfold prPutF; rw [HB.out]; rfl
        have ho9 : (w8.alloc (.cells #[] 65)).ownsRow w.heap.size 65 2 (.slice (some ⟨w8.heap.size, 0, none⟩) 0 0) 0 [] := World.ownsRow_lit w8 #[] 0 hz8 (by simp) rfl
        have hB9 : Below w.heap.size w (w8.alloc (.cells #[] 65)) := hB8.alloc hz8 _
        have hr9 := readsR_kept hr hB9
        clear hok2 ho8
        go_wp2_with (at_builtin; refine append_R (c := prC) rfl (.tmp 44) (.tmp 45) 25 rfl w.heap.size 65 i0 _ 2 32 Try.underlying25 hi0 hz0 hz1 hz2 rfl (by decide) _ _ _ rfl ho9 _ rfl l hr9 prC_len prC_one (by unfold maxLen; omega) (by omega) (by simp; omega) ?_)
        intro xa wa howna hgrowa
        have hoa : PrOwns wa w.heap.size xa l := by unfold PrOwns OwnsR; first | simpa using howna | simpa [h00] using howna
        have hBa : Below w.heap.size w wa := hB9.grown hgrowa (by simp; omega) (fun j hj => (ho9.lt j hj).1)
        clear howna hgrowa
        go_wp2_with fail
        go_ret3
        exact ⟨_, by rw [HF.out, HB.out]; rfl, by rw [HR.out]; exact hoa, hBa⟩
    | false =>
      have HPL : Hid (prPutL l y = l.take (prPos l y.1) ++ y :: l.drop (prPos l y.1)) := by show _ = _; unfold prPutL; rw [ht]; rfl
      have HTH : Hid ((!prThere l y.1) = true) := by show _ = _; rw [ht]; rfl
      have hkl := prPos_le l y.1
      clear ht ho4
      have hr4 := readsR_kept hr hB4
      have hwq : w.heap.size < w4.heap.size := by omega
      have hwq2 : w.heap.size ≤ w4.heap.size := by omega
      have hBq := hB4
      generalize prPos l y.1 = k at *
      obtain ⟨T, hT⟩ : ∃ T, l.take k = T := ⟨_, rfl⟩
      obtain ⟨D, hD⟩ : ∃ D, l.drop k = D := ⟨_, rfl⟩
      rw [hT, hD] at HPL
      have hTl : T.length = k := by rw [← hT]; simp; omega
      have hDl : D.length = l.length - k := by rw [← hD]; simp
      rcases hr4 with ⟨h0, ao', cap', hv, hcap⟩ | ⟨h0, b, off, cap', hv, hb, hnc, hcm, hc⟩
      · have h00 : l.length = 0 := by rw [h0]; rfl
        simp only [Value.slice.injEq] at hv
        obtain ⟨rfl, _, rfl⟩ := hv
        obtain rfl : k = 0 := by omega
        have hT0 : T = [] := List.length_eq_zero_iff.1 hTl
        have hD0 : D = [] := List.length_eq_zero_iff.1 (by omega)
        have hDl0 : D.length = 0 := by omega
        clear h0 hT hD hDl
        rw [h00] at hr
        cases ao with
        | none =>
          obtain rfl := hcap rfl
          have HA : Hid (ReadsR prC 2 w4 (.slice none 0 0) T) := .inl ⟨hT0, _, _, rfl, fun _ => rfl⟩
          have HBc : Hid (ReadsR prC 2 w4 (.slice none 0 0) D) := .inl ⟨hD0, _, _, rfl, fun _ => rfl⟩
          clear hT0 hD0 hcap
          go_wp2_with fail
          have HS2 : Hid (∀ w', Below (w4).heap.size (w4) w' → (w'.cell? ⟨w.heap.size, 0, none⟩ = some (.string y.1) ∧ w'.cell? ⟨w.heap.size, 1, none⟩ = some (.string y.2))) := fun w' h => ⟨(h.cell (p := ⟨w.heap.size, 0, none⟩) hwq).trans hq0, (h.cell (p := ⟨w.heap.size, 1, none⟩) hwq).trans hq1⟩
          have hlw : ∀ (A : Array Value), A.size = 0 → Below (w4).heap.size (w4) ((w4).alloc (.cells A 65)) := fun A _ => (Below.refl _ _).alloc (Nat.le_refl _) _
          clear hlw
          have hlitB : (((w4).alloc (.cells #[.string y.1, .string y.2] 65)).alloc (.cells #[] 65)).ownsRow (w4).heap.size 65 2 (.slice (some ⟨(w4).heap.size + 1, 0, none⟩) 0 0) 0 [] := by
            have := World.ownsRow_lit (base := (w4).heap.size) (e := 65) (size := 2) ((w4).alloc (.cells #[.string y.1, .string y.2] 65)) #[] 0 (by simp) (by simp) rfl
            rw [World.size_alloc] at this; exact this
          refine wp_region_held_drew (S := (fun w' => w'.cell? ⟨w.heap.size, 0, none⟩ = some (.string y.1) ∧ w'.cell? ⟨w.heap.size, 1, none⟩ = some (.string y.2))) (by kernel_rfl) (by exact HS2.out _ (Below.refl _ _).drew) (fun hHeld => ?_)
          refine takeH (i := 1) (d := (some 30)) (v := ?_) rfl rfl (by kernel_rfl) (by kernel_rfl) (by kernel_rfl) (fun _ _ _ h => h) (by kernel_rfl) ?_ (by assumption) ?_
          rotate_left
          · (intro w hSw; (try dsimp only at hSw); go_simp; try with_reducible rfl)
          try simp only [Act.put, List.setIfInBounds_toArray, List.set_cons_succ, List.set_cons_zero]
          refine takeH (i := 2) (d := (some 31)) (v := ?_) rfl rfl (by kernel_rfl) (by kernel_rfl) (by kernel_rfl) (fun _ _ _ h => h) (by kernel_rfl) ?_ (by assumption) ?_
          rotate_left
          · (intro w hSw; (try dsimp only at hSw); go_simp; try with_reducible rfl)
          try simp only [Act.put, List.setIfInBounds_toArray, List.set_cons_succ, List.set_cons_zero]
          refine takeH (i := 3) (d := (some 32)) (v := ?_) rfl rfl (by kernel_rfl) (by kernel_rfl) (by kernel_rfl) (fun _ _ _ h => h) (by kernel_rfl) ?_ (by assumption) ?_
          rotate_left
          · (intro w hSw; (try dsimp only at hSw); go_simp; try with_reducible rfl)
          try simp only [Act.put, List.setIfInBounds_toArray, List.set_cons_succ, List.set_cons_zero]
          refine takeH (i := 5) (d := (some 34)) (v := ?_) rfl rfl (by kernel_rfl) (by kernel_rfl) (by kernel_rfl) (fun _ _ _ h => h) (by kernel_rfl) ?_ (by assumption) ?_
          rotate_left
          · (intro w hSw; (try dsimp only at hSw); go_simp; try with_reducible rfl)
          try simp only [Act.put, List.setIfInBounds_toArray, List.set_cons_succ, List.set_cons_zero]
          refine takeH (i := 8) (d := (some 37)) (v := ?_) rfl rfl (by kernel_rfl) (by kernel_rfl) (by kernel_rfl) (fun _ _ _ h => h) (by kernel_rfl) ?_ (by assumption) ?_
          rotate_left
          · (intro w hSw; (try dsimp only at hSw); go_simp; try with_reducible rfl)
          try simp only [Act.put, List.setIfInBounds_toArray, List.set_cons_succ, List.set_cons_zero]
          refine takeH (i := 9) (d := (some 38)) (v := ?_) rfl rfl (by kernel_rfl) (by kernel_rfl) (by kernel_rfl) (fun _ _ _ h => h) (by kernel_rfl) ?_ (by assumption) ?_
          rotate_left
          · (intro w hSw; (try dsimp only at hSw); go_simp; try with_reducible rfl)
          try simp only [Act.put, List.setIfInBounds_toArray, List.set_cons_succ, List.set_cons_zero]
          refine takeH (i := 10) (d := (some 39)) (v := ?_) rfl rfl (by kernel_rfl) (by kernel_rfl) (by kernel_rfl) (fun _ _ _ h => h) (by kernel_rfl) ?_ (by assumption) ?_
          rotate_left
          · (intro w hSw; (try dsimp only at hSw); go_simp; try with_reducible rfl)
          try simp only [Act.put, List.setIfInBounds_toArray, List.set_cons_succ, List.set_cons_zero]
          refine wpAnyH_ready (rs := [0, 6]) (by kernel_rfl) (by simp) ?_
          refine AllReadyH.cons rfl (fun K hK => ?_) (AllReadyH.cons rfl (fun K hK => ?_) AllReadyH.nil)
          · go_simp
            refine hK.out _ _ ?_ (fun hHeld => ?_)
            · exact HS2.out _ ((Below.refl (w4).heap.size (w4)).alloc (Nat.le_refl _) (.cells #[] 65)).drew
            clear hK K
            (try simp only [Act.put]); (try simp only [List.setIfInBounds_toArray]); (try simp only [List.set_cons_succ]); (try simp only [List.set_cons_zero])
            refine wpAnyH_ready (rs := [4, 6]) (by kernel_rfl) (by simp) ?_
            refine AllReadyH.cons rfl (fun K hK => ?_) (AllReadyH.cons rfl (fun K hK => ?_) AllReadyH.nil)
            · refine step_append_R (c := prC) (d := some 33) rfl rfl (.tmp 29) (.tmp 32) 25 rfl (w4).heap.size 65 i0 _ 2 32 Try.underlying25 hi0 hz0 hz1 hz2 rfl (by decide) _ _ _ rfl (World.ownsRow.drew (World.ownsRow_lit (w4) #[] 0 (Nat.le_refl _) (by simp) rfl)) _ rfl T (readsR_kept HA.out ((Below.refl (w4).heap.size (w4)).alloc (Nat.le_refl _) (.cells #[] 65)).drew) prC_len prC_one (by unfold maxLen; simp; omega) (by simp; omega) (by simp) ?_
              intro x5 w5 ho5 hg5
              have hb5 : Below (w4).heap.size (w4) w5 := Below.grown ((Below.refl (w4).heap.size (w4)).alloc (Nat.le_refl _) (.cells #[] 65)).drew hg5 (by simp) (fun k hk => by cases hk; exact Nat.le_refl _)
              refine hK.out _ _ ?_ (fun hHeld => ?_)
              · exact HS2.out _ hb5
              clear hK K
              (try simp only [Act.put]); (try simp only [List.setIfInBounds_toArray]); (try simp only [List.set_cons_succ]); (try simp only [List.set_cons_zero])
              have hz5 := hb5.size
              refine wpAnyH_ready (rs := [6]) (by kernel_rfl) (by simp) ?_
              refine AllReadyH.cons rfl (fun K hK => ?_) AllReadyH.nil
              go_simp
              refine hK.out _ _ ?_ (fun hHeld => ?_)
              · exact HS2.out _ (hb5.alloc hz5 (.cells #[.string y.1, .string y.2] 65))
              clear hK K
              (try simp only [Act.put]); (try simp only [List.setIfInBounds_toArray]); (try simp only [List.set_cons_succ]); (try simp only [List.set_cons_zero])
              refine wpAnyH_ready (rs := [7]) (by kernel_rfl) (by simp) ?_
              refine AllReadyH.cons rfl (fun K hK => ?_) AllReadyH.nil
              refine step_append_R (c := prC) (d := some 36) rfl rfl (.tmp 33) (.tmp 35) 25 rfl (w4).heap.size 65 i0 _ 2 32 Try.underlying25 hi0 hz0 hz1 hz2 rfl (by decide) _ _ _ rfl (World.ownsRow.alloc ho5 (.cells #[.string y.1, .string y.2] 65)) _ rfl [y] (pr_one_at (heap_alloc_new w5 (.cells #[.string y.1, .string y.2] 65))) prC_len prC_one (by unfold maxLen; simp; omega) (by simp; omega) (by simp; omega) ?_
              intro x6 w6 ho6 hg6
              have hb6 : Below (w4).heap.size (w4) w6 := Below.grown (hb5.alloc hz5 (.cells #[.string y.1, .string y.2] 65)) hg6 (by simp; omega) (fun k hk => (ho5.lt k hk).1)
              refine hK.out _ _ ?_ (fun hHeld => ?_)
              · exact HS2.out _ hb6
              clear hK K
              (try simp only [Act.put]); (try simp only [List.setIfInBounds_toArray]); (try simp only [List.set_cons_succ]); (try simp only [List.set_cons_zero])
              have hz6 := hb6.size
              refine wpAnyH_ready (rs := [11]) (by kernel_rfl) (by simp) ?_
              refine AllReadyH.cons rfl (fun K hK => ?_) AllReadyH.nil
              refine step_append_R (c := prC) (d := some 40) rfl rfl (.tmp 36) (.tmp 39) 25 rfl (w4).heap.size 65 i0 _ 2 32 Try.underlying25 hi0 hz0 hz1 hz2 rfl (by decide) _ _ _ rfl ho6 _ rfl D (readsR_kept HBc.out hb6) prC_len prC_one (by unfold maxLen; simp; omega) (by simp; omega) hz6 ?_
              intro x7 w7 ho7 hg7
              have hb7 : Below (w4).heap.size (w4) w7 := Below.grown hb6 hg7 hz6 (fun k hk => (ho6.lt k hk).1)
              refine hK.out _ _ ?_ (fun hHeld => ?_)
              · exact HS2.out _ hb7
              clear hK K
              (try simp only [Act.put]); (try simp only [List.setIfInBounds_toArray]); (try simp only [List.set_cons_succ]); (try simp only [List.set_cons_zero])
              refine takeH (i := 12) (d := (some 9)) (v := ?_) rfl rfl (by kernel_rfl) (by kernel_rfl) (by kernel_rfl) (fun _ _ _ h => h) (by kernel_rfl) ?_ (by assumption) ?_
              rotate_left
              · (intro w hSw; (try dsimp only at hSw); go_simp; try with_reducible rfl)
              (try simp only [Act.put]); (try simp only [List.setIfInBounds_toArray]); (try simp only [List.set_cons_succ]); (try simp only [List.set_cons_zero])
              refine wpAnyH_done (by kernel_rfl) ?_ _
              have hB7 : Below w.heap.size w w7 := hBq.trans (hb7.mono (by omega))
              have hoF0 : PrOwns w7 (w4).heap.size x7 (T ++ y :: D) := by
                unfold PrOwns OwnsR
                rw [List.length_append, List.length_cons, List.flatMap_append, List.flatMap_cons]
                have h7 := ho7
                simp only [List.length_cons, List.length_nil, List.flatMap_cons, List.flatMap_nil, List.append_nil, List.nil_append, Nat.zero_add, List.append_assoc] at h7
                rw [show T.length + (D.length + 1) = T.length + 1 + D.length by omega]
                exact h7
              have hoF : PrOwns w7 w.heap.size x7 (T ++ y :: D) := ownsR_base hoF0 hwq2
              have hinl : (T ++ y :: D).length ≤ 17 := by rw [List.length_append, List.length_cons]; omega
              obtain ⟨ax, cx, hxv⟩ := readsR_shape (ownsR_reads prC_len hoF)
              subst hxv
              have hb7z := hB7.size
              clear hHeld HA HBc HS2 ho5 hg5 hb5 ho6 hg6 hb6 ho7 hg7 hb7 hoF0 hBq
              generalize T ++ y :: D = O at *
              go_wp2_with fail
              refine (specFieldsOk_any _ O _ (ownsR_reads prC_len hoF) (by omega)).mono ?_
              rintro e w8 ⟨rfl, hb8⟩
              have hB8 := hB7.trans (hb8.mono hb7z)
              have ho8 := ownsR_kept hoF hb8
              have hz8 := hB8.size
              clear hb8 hoF hB7
              cases hok2 : prOkB O with
              | true =>
                have HR : Hid (prPutR l y = O) := by show _ = _; unfold prPutR; rw [HOK.out, HPL.out, hok2]; rfl
                have HB : Hid (prPutB l y = true) := by show _ = _; unfold prPutB; rw [HOK.out, HPL.out, hok2]; rfl
                have HF : Hid (prPutF l y = !prThere l y.1) := by show _ = _; unfold prPutF; rw [HB.out]; rfl
                clear hok2
                go_wp2_with fail
                go_ret3
                exact ⟨_, by rw [HF.out, HTH.out, HB.out]; rfl, by rw [HR.out]; exact ho8, hB8⟩
              | false =>
                have HR : Hid (prPutR l y = l) := by show _ = _; unfold prPutR; rw [HOK.out, HPL.out, hok2]; rfl
                have HB : Hid (prPutB l y = false) := by show _ = _; unfold prPutB; rw [HOK.out, HPL.out, hok2]; rfl
                have HF : Hid (prPutF l y = false) := by show _ = _; unfold prPutF; rw [HB.out]; rfl
                have ho9 : (w8.alloc (.cells #[] 65)).ownsRow w.heap.size 65 2 (.slice (some ⟨w8.heap.size, 0, none⟩) 0 0) 0 [] := World.ownsRow_lit w8 #[] 0 hz8 (by simp) rfl
                have hB9 : Below w.heap.size w (w8.alloc (.cells #[] 65)) := hB8.alloc hz8 _
                have hr9 := readsR_kept hr hB9
                clear hok2 ho8
                go_wp2_with (at_builtin; refine append_R (c := prC) rfl (.tmp 44) (.tmp 45) 25 rfl w.heap.size 65 i0 _ 2 32 Try.underlying25 hi0 hz0 hz1 hz2 rfl (by decide) _ _ _ rfl ho9 _ rfl l hr9 prC_len prC_one (by unfold maxLen; omega) (by omega) (by simp; omega) ?_)
                intro xa wa howna hgrowa
                have hoa : PrOwns wa w.heap.size xa l := by unfold PrOwns OwnsR; first | simpa using howna | simpa [h00] using howna
                have hBa : Below w.heap.size w wa := hB9.grown hgrowa (by simp; omega) (fun j hj => (ho9.lt j hj).1)
                clear howna hgrowa
                go_wp2_with fail
                go_ret3
                exact ⟨_, by rw [HF.out, HB.out]; rfl, by rw [HR.out]; exact hoa, hBa⟩
            · go_simp
              refine hK.out _ _ ?_ (fun hHeld => ?_)
              · exact HS2.out _ (((Below.refl (w4).heap.size (w4)).alloc (Nat.le_refl _) (.cells #[] 65)).alloc (by simp) (.cells #[.string y.1, .string y.2] 65)).drew
              clear hK K
              (try simp only [Act.put]); (try simp only [List.setIfInBounds_toArray]); (try simp only [List.set_cons_succ]); (try simp only [List.set_cons_zero])
              refine wpAnyH_ready (rs := [4]) (by kernel_rfl) (by simp) ?_
              refine AllReadyH.cons rfl (fun K hK => ?_) AllReadyH.nil
              refine step_append_R (c := prC) (d := some 33) rfl rfl (.tmp 29) (.tmp 32) 25 rfl (w4).heap.size 65 i0 _ 2 32 Try.underlying25 hi0 hz0 hz1 hz2 rfl (by decide) _ _ _ rfl (World.ownsRow.drew (World.ownsRow.alloc (World.ownsRow_lit (w4) #[] 0 (Nat.le_refl _) (by simp) rfl) (.cells #[.string y.1, .string y.2] 65))) _ rfl T (readsR_kept HA.out (((Below.refl (w4).heap.size (w4)).alloc (Nat.le_refl _) (.cells #[] 65)).alloc (by simp) (.cells #[.string y.1, .string y.2] 65)).drew) prC_len prC_one (by unfold maxLen; simp; omega) (by simp; omega) (by simp; omega) ?_
              intro x5 w5 ho5 hg5
              have hb5 : Below (w4).heap.size (w4) w5 := Below.grown (((Below.refl (w4).heap.size (w4)).alloc (Nat.le_refl _) (.cells #[] 65)).alloc (by simp) (.cells #[.string y.1, .string y.2] 65)).drew hg5 (by simp; omega) (fun k hk => by cases hk; exact Nat.le_refl _)
              refine hK.out _ _ ?_ (fun hHeld => ?_)
              · exact HS2.out _ hb5
              clear hK K
              (try simp only [Act.put]); (try simp only [List.setIfInBounds_toArray]); (try simp only [List.set_cons_succ]); (try simp only [List.set_cons_zero])
              have hz5 := hb5.size
              have hq5 : w5.heap[(w4).heap.size + 1]? = some (.cells #[.string y.1, .string y.2] 65) := (hg5.block ((w4).heap.size + 1) (by simp) (show some ((w4).heap.size + 1) ≠ some (w4).heap.size by simp)).trans (heap_alloc2_new (w4) (.cells #[] 65) (.cells #[.string y.1, .string y.2] 65))
              refine wpAnyH_ready (rs := [7]) (by kernel_rfl) (by simp) ?_
              refine AllReadyH.cons rfl (fun K hK => ?_) AllReadyH.nil
              refine step_append_R (c := prC) (d := some 36) rfl rfl (.tmp 33) (.tmp 35) 25 rfl (w4).heap.size 65 i0 _ 2 32 Try.underlying25 hi0 hz0 hz1 hz2 rfl (by decide) _ _ _ rfl ho5 _ rfl [y] (pr_one_at hq5) prC_len prC_one (by unfold maxLen; simp; omega) (by simp; omega) hz5 ?_
              intro x6 w6 ho6 hg6
              have hb6 : Below (w4).heap.size (w4) w6 := Below.grown hb5 hg6 hz5 (fun k hk => (ho5.lt k hk).1)
              refine hK.out _ _ ?_ (fun hHeld => ?_)
              · exact HS2.out _ hb6
              clear hK K
              (try simp only [Act.put]); (try simp only [List.setIfInBounds_toArray]); (try simp only [List.set_cons_succ]); (try simp only [List.set_cons_zero])
              have hz6 := hb6.size
              refine wpAnyH_ready (rs := [11]) (by kernel_rfl) (by simp) ?_
              refine AllReadyH.cons rfl (fun K hK => ?_) AllReadyH.nil
              refine step_append_R (c := prC) (d := some 40) rfl rfl (.tmp 36) (.tmp 39) 25 rfl (w4).heap.size 65 i0 _ 2 32 Try.underlying25 hi0 hz0 hz1 hz2 rfl (by decide) _ _ _ rfl ho6 _ rfl D (readsR_kept HBc.out hb6) prC_len prC_one (by unfold maxLen; simp; omega) (by simp; omega) hz6 ?_
              intro x7 w7 ho7 hg7
              have hb7 : Below (w4).heap.size (w4) w7 := Below.grown hb6 hg7 hz6 (fun k hk => (ho6.lt k hk).1)
              refine hK.out _ _ ?_ (fun hHeld => ?_)
              · exact HS2.out _ hb7
              clear hK K
              (try simp only [Act.put]); (try simp only [List.setIfInBounds_toArray]); (try simp only [List.set_cons_succ]); (try simp only [List.set_cons_zero])
              refine takeH (i := 12) (d := (some 9)) (v := ?_) rfl rfl (by kernel_rfl) (by kernel_rfl) (by kernel_rfl) (fun _ _ _ h => h) (by kernel_rfl) ?_ (by assumption) ?_
              rotate_left
              · (intro w hSw; (try dsimp only at hSw); go_simp; try with_reducible rfl)
              (try simp only [Act.put]); (try simp only [List.setIfInBounds_toArray]); (try simp only [List.set_cons_succ]); (try simp only [List.set_cons_zero])
              refine wpAnyH_done (by kernel_rfl) ?_ _
              have hB7 : Below w.heap.size w w7 := hBq.trans (hb7.mono (by omega))
              have hoF0 : PrOwns w7 (w4).heap.size x7 (T ++ y :: D) := by
                unfold PrOwns OwnsR
                rw [List.length_append, List.length_cons, List.flatMap_append, List.flatMap_cons]
                have h7 := ho7
                simp only [List.length_cons, List.length_nil, List.flatMap_cons, List.flatMap_nil, List.append_nil, List.nil_append, Nat.zero_add, List.append_assoc] at h7
                rw [show T.length + (D.length + 1) = T.length + 1 + D.length by omega]
                exact h7
              have hoF : PrOwns w7 w.heap.size x7 (T ++ y :: D) := ownsR_base hoF0 hwq2
              have hinl : (T ++ y :: D).length ≤ 17 := by rw [List.length_append, List.length_cons]; omega
              obtain ⟨ax, cx, hxv⟩ := readsR_shape (ownsR_reads prC_len hoF)
              subst hxv
              have hb7z := hB7.size
              clear hHeld HA HBc HS2 ho5 hg5 hb5 ho6 hg6 hb6 ho7 hg7 hb7 hoF0 hBq
              generalize T ++ y :: D = O at *
              go_wp2_with fail
              refine (specFieldsOk_any _ O _ (ownsR_reads prC_len hoF) (by omega)).mono ?_
              rintro e w8 ⟨rfl, hb8⟩
              have hB8 := hB7.trans (hb8.mono hb7z)
              have ho8 := ownsR_kept hoF hb8
              have hz8 := hB8.size
              clear hb8 hoF hB7
              cases hok2 : prOkB O with
              | true =>
                have HR : Hid (prPutR l y = O) := by show _ = _; unfold prPutR; rw [HOK.out, HPL.out, hok2]; rfl
                have HB : Hid (prPutB l y = true) := by show _ = _; unfold prPutB; rw [HOK.out, HPL.out, hok2]; rfl
                have HF : Hid (prPutF l y = !prThere l y.1) := by show _ = _; unfold prPutF; rw [HB.out]; rfl
                clear hok2
                go_wp2_with fail
                go_ret3
                exact ⟨_, by rw [HF.out, HTH.out, HB.out]; rfl, by rw [HR.out]; exact ho8, hB8⟩
              | false =>
                have HR : Hid (prPutR l y = l) := by show _ = _; unfold prPutR; rw [HOK.out, HPL.out, hok2]; rfl
                have HB : Hid (prPutB l y = false) := by show _ = _; unfold prPutB; rw [HOK.out, HPL.out, hok2]; rfl
                have HF : Hid (prPutF l y = false) := by show _ = _; unfold prPutF; rw [HB.out]; rfl
                have ho9 : (w8.alloc (.cells #[] 65)).ownsRow w.heap.size 65 2 (.slice (some ⟨w8.heap.size, 0, none⟩) 0 0) 0 [] := World.ownsRow_lit w8 #[] 0 hz8 (by simp) rfl
                have hB9 : Below w.heap.size w (w8.alloc (.cells #[] 65)) := hB8.alloc hz8 _
                have hr9 := readsR_kept hr hB9
                clear hok2 ho8
                go_wp2_with (at_builtin; refine append_R (c := prC) rfl (.tmp 44) (.tmp 45) 25 rfl w.heap.size 65 i0 _ 2 32 Try.underlying25 hi0 hz0 hz1 hz2 rfl (by decide) _ _ _ rfl ho9 _ rfl l hr9 prC_len prC_one (by unfold maxLen; omega) (by omega) (by simp; omega) ?_)
                intro xa wa howna hgrowa
                have hoa : PrOwns wa w.heap.size xa l := by unfold PrOwns OwnsR; first | simpa using howna | simpa [h00] using howna
                have hBa : Below w.heap.size w wa := hB9.grown hgrowa (by simp; omega) (fun j hj => (ho9.lt j hj).1)
                clear howna hgrowa
                go_wp2_with fail
                go_ret3
                exact ⟨_, by rw [HF.out, HB.out]; rfl, by rw [HR.out]; exact hoa, hBa⟩
          · go_simp
            refine hK.out _ _ ?_ (fun hHeld => ?_)
            · exact HS2.out _ ((Below.refl (w4).heap.size (w4)).alloc (Nat.le_refl _) (.cells #[.string y.1, .string y.2] 65)).drew
            clear hK K
            (try simp only [Act.put]); (try simp only [List.setIfInBounds_toArray]); (try simp only [List.set_cons_succ]); (try simp only [List.set_cons_zero])
            refine wpAnyH_ready (rs := [0]) (by kernel_rfl) (by simp) ?_
            refine AllReadyH.cons rfl (fun K hK => ?_) AllReadyH.nil
            go_simp
            refine hK.out _ _ ?_ (fun hHeld => ?_)
            · exact HS2.out _ (((Below.refl (w4).heap.size (w4)).alloc (Nat.le_refl _) (.cells #[.string y.1, .string y.2] 65)).alloc (by simp) (.cells #[] 65)).drew
            clear hK K
            (try simp only [Act.put]); (try simp only [List.setIfInBounds_toArray]); (try simp only [List.set_cons_succ]); (try simp only [List.set_cons_zero])
            refine wpAnyH_ready (rs := [4]) (by kernel_rfl) (by simp) ?_
            refine AllReadyH.cons rfl (fun K hK => ?_) AllReadyH.nil
            refine step_append_R (c := prC) (d := some 33) rfl rfl (.tmp 29) (.tmp 32) 25 rfl (w4).heap.size 65 i0 _ 2 32 Try.underlying25 hi0 hz0 hz1 hz2 rfl (by decide) _ _ _ rfl (World.ownsRow.drew hlitB) _ rfl T (readsR_kept HA.out (((Below.refl (w4).heap.size (w4)).alloc (Nat.le_refl _) (.cells #[.string y.1, .string y.2] 65)).alloc (by simp) (.cells #[] 65)).drew) prC_len prC_one (by unfold maxLen; simp; omega) (by simp; omega) (by simp; omega) ?_
            intro x5 w5 ho5 hg5
            have hb5 : Below (w4).heap.size (w4) w5 := Below.grown (((Below.refl (w4).heap.size (w4)).alloc (Nat.le_refl _) (.cells #[.string y.1, .string y.2] 65)).alloc (by simp) (.cells #[] 65)).drew hg5 (by simp; omega) (fun k hk => by cases hk; simp)
            refine hK.out _ _ ?_ (fun hHeld => ?_)
            · exact HS2.out _ hb5
            clear hK K
            (try simp only [Act.put]); (try simp only [List.setIfInBounds_toArray]); (try simp only [List.set_cons_succ]); (try simp only [List.set_cons_zero])
            have hz5 := hb5.size
            have hq5 : w5.heap[(w4).heap.size]? = some (.cells #[.string y.1, .string y.2] 65) := (hg5.block (w4).heap.size (by simp; omega) (show some (w4).heap.size ≠ some ((w4).heap.size + 1) by simp)).trans ((Below.heap_alloc ((w4).alloc (.cells #[.string y.1, .string y.2] 65)) (.cells #[] 65) (w4).heap.size (by simp)).trans (heap_alloc_new (w4) (.cells #[.string y.1, .string y.2] 65)))
            refine wpAnyH_ready (rs := [7]) (by kernel_rfl) (by simp) ?_
            refine AllReadyH.cons rfl (fun K hK => ?_) AllReadyH.nil
            refine step_append_R (c := prC) (d := some 36) rfl rfl (.tmp 33) (.tmp 35) 25 rfl (w4).heap.size 65 i0 _ 2 32 Try.underlying25 hi0 hz0 hz1 hz2 rfl (by decide) _ _ _ rfl ho5 _ rfl [y] (pr_one_at hq5) prC_len prC_one (by unfold maxLen; simp; omega) (by simp; omega) hz5 ?_
            intro x6 w6 ho6 hg6
            have hb6 : Below (w4).heap.size (w4) w6 := Below.grown hb5 hg6 hz5 (fun k hk => (ho5.lt k hk).1)
            refine hK.out _ _ ?_ (fun hHeld => ?_)
            · exact HS2.out _ hb6
            clear hK K
            (try simp only [Act.put]); (try simp only [List.setIfInBounds_toArray]); (try simp only [List.set_cons_succ]); (try simp only [List.set_cons_zero])
            have hz6 := hb6.size
            refine wpAnyH_ready (rs := [11]) (by kernel_rfl) (by simp) ?_
            refine AllReadyH.cons rfl (fun K hK => ?_) AllReadyH.nil
            refine step_append_R (c := prC) (d := some 40) rfl rfl (.tmp 36) (.tmp 39) 25 rfl (w4).heap.size 65 i0 _ 2 32 Try.underlying25 hi0 hz0 hz1 hz2 rfl (by decide) _ _ _ rfl ho6 _ rfl D (readsR_kept HBc.out hb6) prC_len prC_one (by unfold maxLen; simp; omega) (by simp; omega) hz6 ?_
            intro x7 w7 ho7 hg7
            have hb7 : Below (w4).heap.size (w4) w7 := Below.grown hb6 hg7 hz6 (fun k hk => (ho6.lt k hk).1)
            refine hK.out _ _ ?_ (fun hHeld => ?_)
            · exact HS2.out _ hb7
            clear hK K
            (try simp only [Act.put]); (try simp only [List.setIfInBounds_toArray]); (try simp only [List.set_cons_succ]); (try simp only [List.set_cons_zero])
            refine takeH (i := 12) (d := (some 9)) (v := ?_) rfl rfl (by kernel_rfl) (by kernel_rfl) (by kernel_rfl) (fun _ _ _ h => h) (by kernel_rfl) ?_ (by assumption) ?_
            rotate_left
            · (intro w hSw; (try dsimp only at hSw); go_simp; try with_reducible rfl)
            (try simp only [Act.put]); (try simp only [List.setIfInBounds_toArray]); (try simp only [List.set_cons_succ]); (try simp only [List.set_cons_zero])
            refine wpAnyH_done (by kernel_rfl) ?_ _
            have hB7 : Below w.heap.size w w7 := hBq.trans (hb7.mono (by omega))
            have hoF0 : PrOwns w7 (w4).heap.size x7 (T ++ y :: D) := by
              unfold PrOwns OwnsR
              rw [List.length_append, List.length_cons, List.flatMap_append, List.flatMap_cons]
              have h7 := ho7
              simp only [List.length_cons, List.length_nil, List.flatMap_cons, List.flatMap_nil, List.append_nil, List.nil_append, Nat.zero_add, List.append_assoc] at h7
              rw [show T.length + (D.length + 1) = T.length + 1 + D.length by omega]
              exact h7
            have hoF : PrOwns w7 w.heap.size x7 (T ++ y :: D) := ownsR_base hoF0 hwq2
            have hinl : (T ++ y :: D).length ≤ 17 := by rw [List.length_append, List.length_cons]; omega
            obtain ⟨ax, cx, hxv⟩ := readsR_shape (ownsR_reads prC_len hoF)
            subst hxv
            have hb7z := hB7.size
            clear hHeld HA HBc HS2 ho5 hg5 hb5 ho6 hg6 hb6 ho7 hg7 hb7 hoF0 hBq
            generalize T ++ y :: D = O at *
            go_wp2_with fail
            refine (specFieldsOk_any _ O _ (ownsR_reads prC_len hoF) (by omega)).mono ?_
            rintro e w8 ⟨rfl, hb8⟩
            have hB8 := hB7.trans (hb8.mono hb7z)
            have ho8 := ownsR_kept hoF hb8
            have hz8 := hB8.size
            clear hb8 hoF hB7
            cases hok2 : prOkB O with
            | true =>
              have HR : Hid (prPutR l y = O) := by show _ = _; unfold prPutR; rw [HOK.out, HPL.out, hok2]; rfl
              have HB : Hid (prPutB l y = true) := by show _ = _; unfold prPutB; rw [HOK.out, HPL.out, hok2]; rfl
              have HF : Hid (prPutF l y = !prThere l y.1) := by show _ = _; unfold prPutF; rw [HB.out]; rfl
              clear hok2
              go_wp2_with fail
              go_ret3
              exact ⟨_, by rw [HF.out, HTH.out, HB.out]; rfl, by rw [HR.out]; exact ho8, hB8⟩
            | false =>
              have HR : Hid (prPutR l y = l) := by show _ = _; unfold prPutR; rw [HOK.out, HPL.out, hok2]; rfl
              have HB : Hid (prPutB l y = false) := by show _ = _; unfold prPutB; rw [HOK.out, HPL.out, hok2]; rfl
              have HF : Hid (prPutF l y = false) := by show _ = _; unfold prPutF; rw [HB.out]; rfl
              have ho9 : (w8.alloc (.cells #[] 65)).ownsRow w.heap.size 65 2 (.slice (some ⟨w8.heap.size, 0, none⟩) 0 0) 0 [] := World.ownsRow_lit w8 #[] 0 hz8 (by simp) rfl
              have hB9 : Below w.heap.size w (w8.alloc (.cells #[] 65)) := hB8.alloc hz8 _
              have hr9 := readsR_kept hr hB9
              clear hok2 ho8
              go_wp2_with (at_builtin; refine append_R (c := prC) rfl (.tmp 44) (.tmp 45) 25 rfl w.heap.size 65 i0 _ 2 32 Try.underlying25 hi0 hz0 hz1 hz2 rfl (by decide) _ _ _ rfl ho9 _ rfl l hr9 prC_len prC_one (by unfold maxLen; omega) (by omega) (by simp; omega) ?_)
              intro xa wa howna hgrowa
              have hoa : PrOwns wa w.heap.size xa l := by unfold PrOwns OwnsR; first | simpa using howna | simpa [h00] using howna
              have hBa : Below w.heap.size w wa := hB9.grown hgrowa (by simp; omega) (fun j hj => (ho9.lt j hj).1)
              clear howna hgrowa
              go_wp2_with fail
              go_ret3
              exact ⟨_, by rw [HF.out, HB.out]; rfl, by rw [HR.out]; exact hoa, hBa⟩
        | some a =>
          obtain ⟨ab, ao2, asp⟩ := a
          have HA : Hid (ReadsR prC 2 w4 (.slice (some ⟨ab, ao2, asp⟩) 0 cap) T) := .inl ⟨hT0, _, _, rfl, by simp⟩
          have HBc : Hid (ReadsR prC 2 w4 (.slice (some ⟨ab, ao2, asp⟩) 0 cap) D) := .inl ⟨hD0, _, _, rfl, by simp⟩
          clear hT0 hD0 hcap
          go_wp2_with fail
          have HS2 : Hid (∀ w', Below (w4).heap.size (w4) w' → (w'.cell? ⟨w.heap.size, 0, none⟩ = some (.string y.1) ∧ w'.cell? ⟨w.heap.size, 1, none⟩ = some (.string y.2))) := fun w' h => ⟨(h.cell (p := ⟨w.heap.size, 0, none⟩) hwq).trans hq0, (h.cell (p := ⟨w.heap.size, 1, none⟩) hwq).trans hq1⟩
          have hlw : ∀ (A : Array Value), A.size = 0 → Below (w4).heap.size (w4) ((w4).alloc (.cells A 65)) := fun A _ => (Below.refl _ _).alloc (Nat.le_refl _) _
          clear hlw
          have hlitB : (((w4).alloc (.cells #[.string y.1, .string y.2] 65)).alloc (.cells #[] 65)).ownsRow (w4).heap.size 65 2 (.slice (some ⟨(w4).heap.size + 1, 0, none⟩) 0 0) 0 [] := by
            have := World.ownsRow_lit (base := (w4).heap.size) (e := 65) (size := 2) ((w4).alloc (.cells #[.string y.1, .string y.2] 65)) #[] 0 (by simp) (by simp) rfl
            rw [World.size_alloc] at this; exact this
          refine wp_region_held_drew (S := (fun w' => w'.cell? ⟨w.heap.size, 0, none⟩ = some (.string y.1) ∧ w'.cell? ⟨w.heap.size, 1, none⟩ = some (.string y.2))) (by kernel_rfl) (by exact HS2.out _ (Below.refl _ _).drew) (fun hHeld => ?_)
          refine takeH (i := 1) (d := (some 30)) (v := ?_) rfl rfl (by kernel_rfl) (by kernel_rfl) (by kernel_rfl) (fun _ _ _ h => h) (by kernel_rfl) ?_ (by assumption) ?_
          rotate_left
          · (intro w hSw; (try dsimp only at hSw); go_simp; try with_reducible rfl)
          try simp only [Act.put, List.setIfInBounds_toArray, List.set_cons_succ, List.set_cons_zero]
          refine takeH (i := 2) (d := (some 31)) (v := ?_) rfl rfl (by kernel_rfl) (by kernel_rfl) (by kernel_rfl) (fun _ _ _ h => h) (by kernel_rfl) ?_ (by assumption) ?_
          rotate_left
          · (intro w hSw; (try dsimp only at hSw); go_simp; try with_reducible rfl)
          try simp only [Act.put, List.setIfInBounds_toArray, List.set_cons_succ, List.set_cons_zero]
          refine takeH (i := 3) (d := (some 32)) (v := ?_) rfl rfl (by kernel_rfl) (by kernel_rfl) (by kernel_rfl) (fun _ _ _ h => h) (by kernel_rfl) ?_ (by assumption) ?_
          rotate_left
          · (intro w hSw; (try dsimp only at hSw); go_simp; try with_reducible rfl)
          try simp only [Act.put, List.setIfInBounds_toArray, List.set_cons_succ, List.set_cons_zero]
          refine takeH (i := 5) (d := (some 34)) (v := ?_) rfl rfl (by kernel_rfl) (by kernel_rfl) (by kernel_rfl) (fun _ _ _ h => h) (by kernel_rfl) ?_ (by assumption) ?_
          rotate_left
          · (intro w hSw; (try dsimp only at hSw); go_simp; try with_reducible rfl)
          try simp only [Act.put, List.setIfInBounds_toArray, List.set_cons_succ, List.set_cons_zero]
          refine takeH (i := 8) (d := (some 37)) (v := ?_) rfl rfl (by kernel_rfl) (by kernel_rfl) (by kernel_rfl) (fun _ _ _ h => h) (by kernel_rfl) ?_ (by assumption) ?_
          rotate_left
          · (intro w hSw; (try dsimp only at hSw); go_simp; try with_reducible rfl)
          try simp only [Act.put, List.setIfInBounds_toArray, List.set_cons_succ, List.set_cons_zero]
          refine takeH (i := 9) (d := (some 38)) (v := ?_) rfl rfl (by kernel_rfl) (by kernel_rfl) (by kernel_rfl) (fun _ _ _ h => h) (by kernel_rfl) ?_ (by assumption) ?_
          rotate_left
          · (intro w hSw; (try dsimp only at hSw); go_simp; try with_reducible rfl)
          try simp only [Act.put, List.setIfInBounds_toArray, List.set_cons_succ, List.set_cons_zero]
          refine takeH (i := 10) (d := (some 39)) (v := ?_) rfl rfl (by kernel_rfl) (by kernel_rfl) (by kernel_rfl) (fun _ _ _ h => h) (by kernel_rfl) ?_ (by assumption) ?_
          rotate_left
          · (intro w hSw; (try dsimp only at hSw); go_simp; try with_reducible rfl)
          try simp only [Act.put, List.setIfInBounds_toArray, List.set_cons_succ, List.set_cons_zero]
          refine wpAnyH_ready (rs := [0, 6]) (by kernel_rfl) (by simp) ?_
          refine AllReadyH.cons rfl (fun K hK => ?_) (AllReadyH.cons rfl (fun K hK => ?_) AllReadyH.nil)
          · go_simp
            refine hK.out _ _ ?_ (fun hHeld => ?_)
            · exact HS2.out _ ((Below.refl (w4).heap.size (w4)).alloc (Nat.le_refl _) (.cells #[] 65)).drew
            clear hK K
            (try simp only [Act.put]); (try simp only [List.setIfInBounds_toArray]); (try simp only [List.set_cons_succ]); (try simp only [List.set_cons_zero])
            refine wpAnyH_ready (rs := [4, 6]) (by kernel_rfl) (by simp) ?_
            refine AllReadyH.cons rfl (fun K hK => ?_) (AllReadyH.cons rfl (fun K hK => ?_) AllReadyH.nil)
            · refine step_append_R (c := prC) (d := some 33) rfl rfl (.tmp 29) (.tmp 32) 25 rfl (w4).heap.size 65 i0 _ 2 32 Try.underlying25 hi0 hz0 hz1 hz2 rfl (by decide) _ _ _ rfl (World.ownsRow.drew (World.ownsRow_lit (w4) #[] 0 (Nat.le_refl _) (by simp) rfl)) _ rfl T (readsR_kept HA.out ((Below.refl (w4).heap.size (w4)).alloc (Nat.le_refl _) (.cells #[] 65)).drew) prC_len prC_one (by unfold maxLen; simp; omega) (by simp; omega) (by simp) ?_
              intro x5 w5 ho5 hg5
              have hb5 : Below (w4).heap.size (w4) w5 := Below.grown ((Below.refl (w4).heap.size (w4)).alloc (Nat.le_refl _) (.cells #[] 65)).drew hg5 (by simp) (fun k hk => by cases hk; exact Nat.le_refl _)
              refine hK.out _ _ ?_ (fun hHeld => ?_)
              · exact HS2.out _ hb5
              clear hK K
              (try simp only [Act.put]); (try simp only [List.setIfInBounds_toArray]); (try simp only [List.set_cons_succ]); (try simp only [List.set_cons_zero])
              have hz5 := hb5.size
              refine wpAnyH_ready (rs := [6]) (by kernel_rfl) (by simp) ?_
              refine AllReadyH.cons rfl (fun K hK => ?_) AllReadyH.nil
              go_simp
              refine hK.out _ _ ?_ (fun hHeld => ?_)
              · exact HS2.out _ (hb5.alloc hz5 (.cells #[.string y.1, .string y.2] 65))
              clear hK K
              (try simp only [Act.put]); (try simp only [List.setIfInBounds_toArray]); (try simp only [List.set_cons_succ]); (try simp only [List.set_cons_zero])
              refine wpAnyH_ready (rs := [7]) (by kernel_rfl) (by simp) ?_
              refine AllReadyH.cons rfl (fun K hK => ?_) AllReadyH.nil
              refine step_append_R (c := prC) (d := some 36) rfl rfl (.tmp 33) (.tmp 35) 25 rfl (w4).heap.size 65 i0 _ 2 32 Try.underlying25 hi0 hz0 hz1 hz2 rfl (by decide) _ _ _ rfl (World.ownsRow.alloc ho5 (.cells #[.string y.1, .string y.2] 65)) _ rfl [y] (pr_one_at (heap_alloc_new w5 (.cells #[.string y.1, .string y.2] 65))) prC_len prC_one (by unfold maxLen; simp; omega) (by simp; omega) (by simp; omega) ?_
              intro x6 w6 ho6 hg6
              have hb6 : Below (w4).heap.size (w4) w6 := Below.grown (hb5.alloc hz5 (.cells #[.string y.1, .string y.2] 65)) hg6 (by simp; omega) (fun k hk => (ho5.lt k hk).1)
              refine hK.out _ _ ?_ (fun hHeld => ?_)
              · exact HS2.out _ hb6
              clear hK K
              (try simp only [Act.put]); (try simp only [List.setIfInBounds_toArray]); (try simp only [List.set_cons_succ]); (try simp only [List.set_cons_zero])
              have hz6 := hb6.size
              refine wpAnyH_ready (rs := [11]) (by kernel_rfl) (by simp) ?_
              refine AllReadyH.cons rfl (fun K hK => ?_) AllReadyH.nil
              refine step_append_R (c := prC) (d := some 40) rfl rfl (.tmp 36) (.tmp 39) 25 rfl (w4).heap.size 65 i0 _ 2 32 Try.underlying25 hi0 hz0 hz1 hz2 rfl (by decide) _ _ _ rfl ho6 _ rfl D (readsR_kept HBc.out hb6) prC_len prC_one (by unfold maxLen; simp; omega) (by simp; omega) hz6 ?_
              intro x7 w7 ho7 hg7
              have hb7 : Below (w4).heap.size (w4) w7 := Below.grown hb6 hg7 hz6 (fun k hk => (ho6.lt k hk).1)
              refine hK.out _ _ ?_ (fun hHeld => ?_)
              · exact HS2.out _ hb7
              clear hK K
              (try simp only [Act.put]); (try simp only [List.setIfInBounds_toArray]); (try simp only [List.set_cons_succ]); (try simp only [List.set_cons_zero])
              refine takeH (i := 12) (d := (some 9)) (v := ?_) rfl rfl (by kernel_rfl) (by kernel_rfl) (by kernel_rfl) (fun _ _ _ h => h) (by kernel_rfl) ?_ (by assumption) ?_
              rotate_left
              · (intro w hSw; (try dsimp only at hSw); go_simp; try with_reducible rfl)
              (try simp only [Act.put]); (try simp only [List.setIfInBounds_toArray]); (try simp only [List.set_cons_succ]); (try simp only [List.set_cons_zero])
              refine wpAnyH_done (by kernel_rfl) ?_ _
              have hB7 : Below w.heap.size w w7 := hBq.trans (hb7.mono (by omega))
              have hoF0 : PrOwns w7 (w4).heap.size x7 (T ++ y :: D) := by
                unfold PrOwns OwnsR
                rw [List.length_append, List.length_cons, List.flatMap_append, List.flatMap_cons]
                have h7 := ho7
                simp only [List.length_cons, List.length_nil, List.flatMap_cons, List.flatMap_nil, List.append_nil, List.nil_append, Nat.zero_add, List.append_assoc] at h7
                rw [show T.length + (D.length + 1) = T.length + 1 + D.length by omega]
                exact h7
              have hoF : PrOwns w7 w.heap.size x7 (T ++ y :: D) := ownsR_base hoF0 hwq2
              have hinl : (T ++ y :: D).length ≤ 17 := by rw [List.length_append, List.length_cons]; omega
              obtain ⟨ax, cx, hxv⟩ := readsR_shape (ownsR_reads prC_len hoF)
              subst hxv
              have hb7z := hB7.size
              clear hHeld HA HBc HS2 ho5 hg5 hb5 ho6 hg6 hb6 ho7 hg7 hb7 hoF0 hBq
              generalize T ++ y :: D = O at *
              go_wp2_with fail
              refine (specFieldsOk_any _ O _ (ownsR_reads prC_len hoF) (by omega)).mono ?_
              rintro e w8 ⟨rfl, hb8⟩
              have hB8 := hB7.trans (hb8.mono hb7z)
              have ho8 := ownsR_kept hoF hb8
              have hz8 := hB8.size
              clear hb8 hoF hB7
              cases hok2 : prOkB O with
              | true =>
                have HR : Hid (prPutR l y = O) := by show _ = _; unfold prPutR; rw [HOK.out, HPL.out, hok2]; rfl
                have HB : Hid (prPutB l y = true) := by show _ = _; unfold prPutB; rw [HOK.out, HPL.out, hok2]; rfl
                have HF : Hid (prPutF l y = !prThere l y.1) := by show _ = _; unfold prPutF; rw [HB.out]; rfl
                clear hok2
                go_wp2_with fail
                go_ret3
                exact ⟨_, by rw [HF.out, HTH.out, HB.out]; rfl, by rw [HR.out]; exact ho8, hB8⟩
              | false =>
                have HR : Hid (prPutR l y = l) := by show _ = _; unfold prPutR; rw [HOK.out, HPL.out, hok2]; rfl
                have HB : Hid (prPutB l y = false) := by show _ = _; unfold prPutB; rw [HOK.out, HPL.out, hok2]; rfl
                have HF : Hid (prPutF l y = false) := by show _ = _; unfold prPutF; rw [HB.out]; rfl
                have ho9 : (w8.alloc (.cells #[] 65)).ownsRow w.heap.size 65 2 (.slice (some ⟨w8.heap.size, 0, none⟩) 0 0) 0 [] := World.ownsRow_lit w8 #[] 0 hz8 (by simp) rfl
                have hB9 : Below w.heap.size w (w8.alloc (.cells #[] 65)) := hB8.alloc hz8 _
                have hr9 := readsR_kept hr hB9
                clear hok2 ho8
                go_wp2_with (at_builtin; refine append_R (c := prC) rfl (.tmp 44) (.tmp 45) 25 rfl w.heap.size 65 i0 _ 2 32 Try.underlying25 hi0 hz0 hz1 hz2 rfl (by decide) _ _ _ rfl ho9 _ rfl l hr9 prC_len prC_one (by unfold maxLen; omega) (by omega) (by simp; omega) ?_)
                intro xa wa howna hgrowa
                have hoa : PrOwns wa w.heap.size xa l := by unfold PrOwns OwnsR; first | simpa using howna | simpa [h00] using howna
                have hBa : Below w.heap.size w wa := hB9.grown hgrowa (by simp; omega) (fun j hj => (ho9.lt j hj).1)
                clear howna hgrowa
                go_wp2_with fail
                go_ret3
                exact ⟨_, by rw [HF.out, HB.out]; rfl, by rw [HR.out]; exact hoa, hBa⟩
            · go_simp
              refine hK.out _ _ ?_ (fun hHeld => ?_)
              · exact HS2.out _ (((Below.refl (w4).heap.size (w4)).alloc (Nat.le_refl _) (.cells #[] 65)).alloc (by simp) (.cells #[.string y.1, .string y.2] 65)).drew
              clear hK K
              (try simp only [Act.put]); (try simp only [List.setIfInBounds_toArray]); (try simp only [List.set_cons_succ]); (try simp only [List.set_cons_zero])
              refine wpAnyH_ready (rs := [4]) (by kernel_rfl) (by simp) ?_
              refine AllReadyH.cons rfl (fun K hK => ?_) AllReadyH.nil
              refine step_append_R (c := prC) (d := some 33) rfl rfl (.tmp 29) (.tmp 32) 25 rfl (w4).heap.size 65 i0 _ 2 32 Try.underlying25 hi0 hz0 hz1 hz2 rfl (by decide) _ _ _ rfl (World.ownsRow.drew (World.ownsRow.alloc (World.ownsRow_lit (w4) #[] 0 (Nat.le_refl _) (by simp) rfl) (.cells #[.string y.1, .string y.2] 65))) _ rfl T (readsR_kept HA.out (((Below.refl (w4).heap.size (w4)).alloc (Nat.le_refl _) (.cells #[] 65)).alloc (by simp) (.cells #[.string y.1, .string y.2] 65)).drew) prC_len prC_one (by unfold maxLen; simp; omega) (by simp; omega) (by simp; omega) ?_
              intro x5 w5 ho5 hg5
              have hb5 : Below (w4).heap.size (w4) w5 := Below.grown (((Below.refl (w4).heap.size (w4)).alloc (Nat.le_refl _) (.cells #[] 65)).alloc (by simp) (.cells #[.string y.1, .string y.2] 65)).drew hg5 (by simp; omega) (fun k hk => by cases hk; exact Nat.le_refl _)
              refine hK.out _ _ ?_ (fun hHeld => ?_)
              · exact HS2.out _ hb5
              clear hK K
              (try simp only [Act.put]); (try simp only [List.setIfInBounds_toArray]); (try simp only [List.set_cons_succ]); (try simp only [List.set_cons_zero])
              have hz5 := hb5.size
              have hq5 : w5.heap[(w4).heap.size + 1]? = some (.cells #[.string y.1, .string y.2] 65) := (hg5.block ((w4).heap.size + 1) (by simp) (show some ((w4).heap.size + 1) ≠ some (w4).heap.size by simp)).trans (heap_alloc2_new (w4) (.cells #[] 65) (.cells #[.string y.1, .string y.2] 65))
              refine wpAnyH_ready (rs := [7]) (by kernel_rfl) (by simp) ?_
              refine AllReadyH.cons rfl (fun K hK => ?_) AllReadyH.nil
              refine step_append_R (c := prC) (d := some 36) rfl rfl (.tmp 33) (.tmp 35) 25 rfl (w4).heap.size 65 i0 _ 2 32 Try.underlying25 hi0 hz0 hz1 hz2 rfl (by decide) _ _ _ rfl ho5 _ rfl [y] (pr_one_at hq5) prC_len prC_one (by unfold maxLen; simp; omega) (by simp; omega) hz5 ?_
              intro x6 w6 ho6 hg6
              have hb6 : Below (w4).heap.size (w4) w6 := Below.grown hb5 hg6 hz5 (fun k hk => (ho5.lt k hk).1)
              refine hK.out _ _ ?_ (fun hHeld => ?_)
              · exact HS2.out _ hb6
              clear hK K
              (try simp only [Act.put]); (try simp only [List.setIfInBounds_toArray]); (try simp only [List.set_cons_succ]); (try simp only [List.set_cons_zero])
              have hz6 := hb6.size
              refine wpAnyH_ready (rs := [11]) (by kernel_rfl) (by simp) ?_
              refine AllReadyH.cons rfl (fun K hK => ?_) AllReadyH.nil
              refine step_append_R (c := prC) (d := some 40) rfl rfl (.tmp 36) (.tmp 39) 25 rfl (w4).heap.size 65 i0 _ 2 32 Try.underlying25 hi0 hz0 hz1 hz2 rfl (by decide) _ _ _ rfl ho6 _ rfl D (readsR_kept HBc.out hb6) prC_len prC_one (by unfold maxLen; simp; omega) (by simp; omega) hz6 ?_
              intro x7 w7 ho7 hg7
              have hb7 : Below (w4).heap.size (w4) w7 := Below.grown hb6 hg7 hz6 (fun k hk => (ho6.lt k hk).1)
              refine hK.out _ _ ?_ (fun hHeld => ?_)
              · exact HS2.out _ hb7
              clear hK K
              (try simp only [Act.put]); (try simp only [List.setIfInBounds_toArray]); (try simp only [List.set_cons_succ]); (try simp only [List.set_cons_zero])
              refine takeH (i := 12) (d := (some 9)) (v := ?_) rfl rfl (by kernel_rfl) (by kernel_rfl) (by kernel_rfl) (fun _ _ _ h => h) (by kernel_rfl) ?_ (by assumption) ?_
              rotate_left
              · (intro w hSw; (try dsimp only at hSw); go_simp; try with_reducible rfl)
              (try simp only [Act.put]); (try simp only [List.setIfInBounds_toArray]); (try simp only [List.set_cons_succ]); (try simp only [List.set_cons_zero])
              refine wpAnyH_done (by kernel_rfl) ?_ _
              have hB7 : Below w.heap.size w w7 := hBq.trans (hb7.mono (by omega))
              have hoF0 : PrOwns w7 (w4).heap.size x7 (T ++ y :: D) := by
                unfold PrOwns OwnsR
                rw [List.length_append, List.length_cons, List.flatMap_append, List.flatMap_cons]
                have h7 := ho7
                simp only [List.length_cons, List.length_nil, List.flatMap_cons, List.flatMap_nil, List.append_nil, List.nil_append, Nat.zero_add, List.append_assoc] at h7
                rw [show T.length + (D.length + 1) = T.length + 1 + D.length by omega]
                exact h7
              have hoF : PrOwns w7 w.heap.size x7 (T ++ y :: D) := ownsR_base hoF0 hwq2
              have hinl : (T ++ y :: D).length ≤ 17 := by rw [List.length_append, List.length_cons]; omega
              obtain ⟨ax, cx, hxv⟩ := readsR_shape (ownsR_reads prC_len hoF)
              subst hxv
              have hb7z := hB7.size
              clear hHeld HA HBc HS2 ho5 hg5 hb5 ho6 hg6 hb6 ho7 hg7 hb7 hoF0 hBq
              generalize T ++ y :: D = O at *
              go_wp2_with fail
              refine (specFieldsOk_any _ O _ (ownsR_reads prC_len hoF) (by omega)).mono ?_
              rintro e w8 ⟨rfl, hb8⟩
              have hB8 := hB7.trans (hb8.mono hb7z)
              have ho8 := ownsR_kept hoF hb8
              have hz8 := hB8.size
              clear hb8 hoF hB7
              cases hok2 : prOkB O with
              | true =>
                have HR : Hid (prPutR l y = O) := by show _ = _; unfold prPutR; rw [HOK.out, HPL.out, hok2]; rfl
                have HB : Hid (prPutB l y = true) := by show _ = _; unfold prPutB; rw [HOK.out, HPL.out, hok2]; rfl
                have HF : Hid (prPutF l y = !prThere l y.1) := by show _ = _; unfold prPutF; rw [HB.out]; rfl
                clear hok2
                go_wp2_with fail
                go_ret3
                exact ⟨_, by rw [HF.out, HTH.out, HB.out]; rfl, by rw [HR.out]; exact ho8, hB8⟩
              | false =>
                have HR : Hid (prPutR l y = l) := by show _ = _; unfold prPutR; rw [HOK.out, HPL.out, hok2]; rfl
                have HB : Hid (prPutB l y = false) := by show _ = _; unfold prPutB; rw [HOK.out, HPL.out, hok2]; rfl
                have HF : Hid (prPutF l y = false) := by show _ = _; unfold prPutF; rw [HB.out]; rfl
                have ho9 : (w8.alloc (.cells #[] 65)).ownsRow w.heap.size 65 2 (.slice (some ⟨w8.heap.size, 0, none⟩) 0 0) 0 [] := World.ownsRow_lit w8 #[] 0 hz8 (by simp) rfl
                have hB9 : Below w.heap.size w (w8.alloc (.cells #[] 65)) := hB8.alloc hz8 _
                have hr9 := readsR_kept hr hB9
                clear hok2 ho8
                go_wp2_with (at_builtin; refine append_R (c := prC) rfl (.tmp 44) (.tmp 45) 25 rfl w.heap.size 65 i0 _ 2 32 Try.underlying25 hi0 hz0 hz1 hz2 rfl (by decide) _ _ _ rfl ho9 _ rfl l hr9 prC_len prC_one (by unfold maxLen; omega) (by omega) (by simp; omega) ?_)
                intro xa wa howna hgrowa
                have hoa : PrOwns wa w.heap.size xa l := by unfold PrOwns OwnsR; first | simpa using howna | simpa [h00] using howna
                have hBa : Below w.heap.size w wa := hB9.grown hgrowa (by simp; omega) (fun j hj => (ho9.lt j hj).1)
                clear howna hgrowa
                go_wp2_with fail
                go_ret3
                exact ⟨_, by rw [HF.out, HB.out]; rfl, by rw [HR.out]; exact hoa, hBa⟩
          · go_simp
            refine hK.out _ _ ?_ (fun hHeld => ?_)
            · exact HS2.out _ ((Below.refl (w4).heap.size (w4)).alloc (Nat.le_refl _) (.cells #[.string y.1, .string y.2] 65)).drew
            clear hK K
            (try simp only [Act.put]); (try simp only [List.setIfInBounds_toArray]); (try simp only [List.set_cons_succ]); (try simp only [List.set_cons_zero])
            refine wpAnyH_ready (rs := [0]) (by kernel_rfl) (by simp) ?_
            refine AllReadyH.cons rfl (fun K hK => ?_) AllReadyH.nil
            go_simp
            refine hK.out _ _ ?_ (fun hHeld => ?_)
            · exact HS2.out _ (((Below.refl (w4).heap.size (w4)).alloc (Nat.le_refl _) (.cells #[.string y.1, .string y.2] 65)).alloc (by simp) (.cells #[] 65)).drew
            clear hK K
            (try simp only [Act.put]); (try simp only [List.setIfInBounds_toArray]); (try simp only [List.set_cons_succ]); (try simp only [List.set_cons_zero])
            refine wpAnyH_ready (rs := [4]) (by kernel_rfl) (by simp) ?_
            refine AllReadyH.cons rfl (fun K hK => ?_) AllReadyH.nil
            refine step_append_R (c := prC) (d := some 33) rfl rfl (.tmp 29) (.tmp 32) 25 rfl (w4).heap.size 65 i0 _ 2 32 Try.underlying25 hi0 hz0 hz1 hz2 rfl (by decide) _ _ _ rfl (World.ownsRow.drew hlitB) _ rfl T (readsR_kept HA.out (((Below.refl (w4).heap.size (w4)).alloc (Nat.le_refl _) (.cells #[.string y.1, .string y.2] 65)).alloc (by simp) (.cells #[] 65)).drew) prC_len prC_one (by unfold maxLen; simp; omega) (by simp; omega) (by simp; omega) ?_
            intro x5 w5 ho5 hg5
            have hb5 : Below (w4).heap.size (w4) w5 := Below.grown (((Below.refl (w4).heap.size (w4)).alloc (Nat.le_refl _) (.cells #[.string y.1, .string y.2] 65)).alloc (by simp) (.cells #[] 65)).drew hg5 (by simp; omega) (fun k hk => by cases hk; simp)
            refine hK.out _ _ ?_ (fun hHeld => ?_)
            · exact HS2.out _ hb5
            clear hK K
            (try simp only [Act.put]); (try simp only [List.setIfInBounds_toArray]); (try simp only [List.set_cons_succ]); (try simp only [List.set_cons_zero])
            have hz5 := hb5.size
            have hq5 : w5.heap[(w4).heap.size]? = some (.cells #[.string y.1, .string y.2] 65) := (hg5.block (w4).heap.size (by simp; omega) (show some (w4).heap.size ≠ some ((w4).heap.size + 1) by simp)).trans ((Below.heap_alloc ((w4).alloc (.cells #[.string y.1, .string y.2] 65)) (.cells #[] 65) (w4).heap.size (by simp)).trans (heap_alloc_new (w4) (.cells #[.string y.1, .string y.2] 65)))
            refine wpAnyH_ready (rs := [7]) (by kernel_rfl) (by simp) ?_
            refine AllReadyH.cons rfl (fun K hK => ?_) AllReadyH.nil
            refine step_append_R (c := prC) (d := some 36) rfl rfl (.tmp 33) (.tmp 35) 25 rfl (w4).heap.size 65 i0 _ 2 32 Try.underlying25 hi0 hz0 hz1 hz2 rfl (by decide) _ _ _ rfl ho5 _ rfl [y] (pr_one_at hq5) prC_len prC_one (by unfold maxLen; simp; omega) (by simp; omega) hz5 ?_
            intro x6 w6 ho6 hg6
            have hb6 : Below (w4).heap.size (w4) w6 := Below.grown hb5 hg6 hz5 (fun k hk => (ho5.lt k hk).1)
            refine hK.out _ _ ?_ (fun hHeld => ?_)
            · exact HS2.out _ hb6
            clear hK K
            (try simp only [Act.put]); (try simp only [List.setIfInBounds_toArray]); (try simp only [List.set_cons_succ]); (try simp only [List.set_cons_zero])
            have hz6 := hb6.size
            refine wpAnyH_ready (rs := [11]) (by kernel_rfl) (by simp) ?_
            refine AllReadyH.cons rfl (fun K hK => ?_) AllReadyH.nil
            refine step_append_R (c := prC) (d := some 40) rfl rfl (.tmp 36) (.tmp 39) 25 rfl (w4).heap.size 65 i0 _ 2 32 Try.underlying25 hi0 hz0 hz1 hz2 rfl (by decide) _ _ _ rfl ho6 _ rfl D (readsR_kept HBc.out hb6) prC_len prC_one (by unfold maxLen; simp; omega) (by simp; omega) hz6 ?_
            intro x7 w7 ho7 hg7
            have hb7 : Below (w4).heap.size (w4) w7 := Below.grown hb6 hg7 hz6 (fun k hk => (ho6.lt k hk).1)
            refine hK.out _ _ ?_ (fun hHeld => ?_)
            · exact HS2.out _ hb7
            clear hK K
            (try simp only [Act.put]); (try simp only [List.setIfInBounds_toArray]); (try simp only [List.set_cons_succ]); (try simp only [List.set_cons_zero])
            refine takeH (i := 12) (d := (some 9)) (v := ?_) rfl rfl (by kernel_rfl) (by kernel_rfl) (by kernel_rfl) (fun _ _ _ h => h) (by kernel_rfl) ?_ (by assumption) ?_
            rotate_left
            · (intro w hSw; (try dsimp only at hSw); go_simp; try with_reducible rfl)
            (try simp only [Act.put]); (try simp only [List.setIfInBounds_toArray]); (try simp only [List.set_cons_succ]); (try simp only [List.set_cons_zero])
            refine wpAnyH_done (by kernel_rfl) ?_ _
            have hB7 : Below w.heap.size w w7 := hBq.trans (hb7.mono (by omega))
            have hoF0 : PrOwns w7 (w4).heap.size x7 (T ++ y :: D) := by
              unfold PrOwns OwnsR
              rw [List.length_append, List.length_cons, List.flatMap_append, List.flatMap_cons]
              have h7 := ho7
              simp only [List.length_cons, List.length_nil, List.flatMap_cons, List.flatMap_nil, List.append_nil, List.nil_append, Nat.zero_add, List.append_assoc] at h7
              rw [show T.length + (D.length + 1) = T.length + 1 + D.length by omega]
              exact h7
            have hoF : PrOwns w7 w.heap.size x7 (T ++ y :: D) := ownsR_base hoF0 hwq2
            have hinl : (T ++ y :: D).length ≤ 17 := by rw [List.length_append, List.length_cons]; omega
            obtain ⟨ax, cx, hxv⟩ := readsR_shape (ownsR_reads prC_len hoF)
            subst hxv
            have hb7z := hB7.size
            clear hHeld HA HBc HS2 ho5 hg5 hb5 ho6 hg6 hb6 ho7 hg7 hb7 hoF0 hBq
            generalize T ++ y :: D = O at *
            go_wp2_with fail
            refine (specFieldsOk_any _ O _ (ownsR_reads prC_len hoF) (by omega)).mono ?_
            rintro e w8 ⟨rfl, hb8⟩
            have hB8 := hB7.trans (hb8.mono hb7z)
            have ho8 := ownsR_kept hoF hb8
            have hz8 := hB8.size
            clear hb8 hoF hB7
            cases hok2 : prOkB O with
            | true =>
              have HR : Hid (prPutR l y = O) := by show _ = _; unfold prPutR; rw [HOK.out, HPL.out, hok2]; rfl
              have HB : Hid (prPutB l y = true) := by show _ = _; unfold prPutB; rw [HOK.out, HPL.out, hok2]; rfl
              have HF : Hid (prPutF l y = !prThere l y.1) := by show _ = _; unfold prPutF; rw [HB.out]; rfl
              clear hok2
              go_wp2_with fail
              go_ret3
              exact ⟨_, by rw [HF.out, HTH.out, HB.out]; rfl, by rw [HR.out]; exact ho8, hB8⟩
            | false =>
              have HR : Hid (prPutR l y = l) := by show _ = _; unfold prPutR; rw [HOK.out, HPL.out, hok2]; rfl
              have HB : Hid (prPutB l y = false) := by show _ = _; unfold prPutB; rw [HOK.out, HPL.out, hok2]; rfl
              have HF : Hid (prPutF l y = false) := by show _ = _; unfold prPutF; rw [HB.out]; rfl
              have ho9 : (w8.alloc (.cells #[] 65)).ownsRow w.heap.size 65 2 (.slice (some ⟨w8.heap.size, 0, none⟩) 0 0) 0 [] := World.ownsRow_lit w8 #[] 0 hz8 (by simp) rfl
              have hB9 : Below w.heap.size w (w8.alloc (.cells #[] 65)) := hB8.alloc hz8 _
              have hr9 := readsR_kept hr hB9
              clear hok2 ho8
              go_wp2_with (at_builtin; refine append_R (c := prC) rfl (.tmp 44) (.tmp 45) 25 rfl w.heap.size 65 i0 _ 2 32 Try.underlying25 hi0 hz0 hz1 hz2 rfl (by decide) _ _ _ rfl ho9 _ rfl l hr9 prC_len prC_one (by unfold maxLen; omega) (by omega) (by simp; omega) ?_)
              intro xa wa howna hgrowa
              have hoa : PrOwns wa w.heap.size xa l := by unfold PrOwns OwnsR; first | simpa using howna | simpa [h00] using howna
              have hBa : Below w.heap.size w wa := hB9.grown hgrowa (by simp; omega) (fun j hj => (ho9.lt j hj).1)
              clear howna hgrowa
              go_wp2_with fail
              go_ret3
              exact ⟨_, by rw [HF.out, HB.out]; rfl, by rw [HR.out]; exact hoa, hBa⟩
      · simp only [Value.slice.injEq, true_and] at hv
        obtain ⟨rfl, rfl⟩ := hv
        unfold maxLen at hcm
        have HA : Hid (ReadsR prC 2 w4 (.slice (some ⟨b, off, none⟩) k cap) T) := by
          have := readsR_cut (sz := 2) (c := prC) hb hnc (by unfold maxLen; omega) hc (ao := some ⟨b, off, none⟩) (a := 0) (e := k) (n := k) (k := cap) (fun _ => by simp) (by simp) (Nat.zero_le _) (by omega) (by omega) (by omega)
          rw [List.drop_zero, hT] at this; exact this
        obtain ⟨ab, hab⟩ : ∃ ab, (if cap = k then some (⟨b, off, none⟩ : Addr) else some ⟨b, off + k * 2, none⟩) = ab := ⟨_, rfl⟩
        have HBc : Hid (ReadsR prC 2 w4 (.slice ab (l.length - k) (cap - k)) D) := by
          have := readsR_cut (sz := 2) (c := prC) hb hnc (by unfold maxLen; omega) hc (ao := ab) (a := k) (e := l.length) (n := l.length - k) (k := cap - k) (fun h => by rw [← hab, if_neg h]) (by rw [← hab]; split <;> simp) (by omega) (Nat.le_refl _) rfl rfl
          rw [List.take_length, hD] at this; exact this
        have hj1 : (k : Int) ≤ (cap : Int) := by omega
        have hj2 : (k : Int) ≤ (l.length : Int) := by omega
        have hj3 : (l.length : Int) ≤ (cap : Int) := by omega
        clear hc hT hD
        go_wp2_with fail
        have HS2 : Hid (∀ w', Below (w4).heap.size (w4) w' → (w'.cell? ⟨w.heap.size, 0, none⟩ = some (.string y.1) ∧ w'.cell? ⟨w.heap.size, 1, none⟩ = some (.string y.2))) := fun w' h => ⟨(h.cell (p := ⟨w.heap.size, 0, none⟩) hwq).trans hq0, (h.cell (p := ⟨w.heap.size, 1, none⟩) hwq).trans hq1⟩
        have hlw : ∀ (A : Array Value), A.size = 0 → Below (w4).heap.size (w4) ((w4).alloc (.cells A 65)) := fun A _ => (Below.refl _ _).alloc (Nat.le_refl _) _
        clear hlw
        have hlitB : (((w4).alloc (.cells #[.string y.1, .string y.2] 65)).alloc (.cells #[] 65)).ownsRow (w4).heap.size 65 2 (.slice (some ⟨(w4).heap.size + 1, 0, none⟩) 0 0) 0 [] := by
          have := World.ownsRow_lit (base := (w4).heap.size) (e := 65) (size := 2) ((w4).alloc (.cells #[.string y.1, .string y.2] 65)) #[] 0 (by simp) (by simp) rfl
          rw [World.size_alloc] at this; exact this
        refine wp_region_held_drew (S := (fun w' => w'.cell? ⟨w.heap.size, 0, none⟩ = some (.string y.1) ∧ w'.cell? ⟨w.heap.size, 1, none⟩ = some (.string y.2))) (by kernel_rfl) (by exact HS2.out _ (Below.refl _ _).drew) (fun hHeld => ?_)
        refine takeH (i := 1) (d := (some 30)) (v := ?_) rfl rfl (by kernel_rfl) (by kernel_rfl) (by kernel_rfl) (fun _ _ _ h => h) (by kernel_rfl) ?_ (by assumption) ?_
        rotate_left
        · (intro w hSw; (try dsimp only at hSw); go_simp; try with_reducible rfl)
        try simp only [Act.put, List.setIfInBounds_toArray, List.set_cons_succ, List.set_cons_zero]
        refine takeH (i := 2) (d := (some 31)) (v := ?_) rfl rfl (by kernel_rfl) (by kernel_rfl) (by kernel_rfl) (fun _ _ _ h => h) (by kernel_rfl) ?_ (by assumption) ?_
        rotate_left
        · (intro w hSw; (try dsimp only at hSw); go_simp; try with_reducible rfl)
        try simp only [Act.put, List.setIfInBounds_toArray, List.set_cons_succ, List.set_cons_zero]
        refine takeH (i := 3) (d := (some 32)) (v := ?_) rfl rfl (by kernel_rfl) (by kernel_rfl) (by kernel_rfl) (fun _ _ _ h => h) (by kernel_rfl) ?_ (by assumption) ?_
        rotate_left
        · (intro w hSw; (try dsimp only at hSw); go_simp; try with_reducible rfl)
        try simp only [Act.put, List.setIfInBounds_toArray, List.set_cons_succ, List.set_cons_zero]
        refine takeH (i := 5) (d := (some 34)) (v := ?_) rfl rfl (by kernel_rfl) (by kernel_rfl) (by kernel_rfl) (fun _ _ _ h => h) (by kernel_rfl) ?_ (by assumption) ?_
        rotate_left
        · (intro w hSw; (try dsimp only at hSw); go_simp; try with_reducible rfl)
        try simp only [Act.put, List.setIfInBounds_toArray, List.set_cons_succ, List.set_cons_zero]
        refine takeH (i := 8) (d := (some 37)) (v := ?_) rfl rfl (by kernel_rfl) (by kernel_rfl) (by kernel_rfl) (fun _ _ _ h => h) (by kernel_rfl) ?_ (by assumption) ?_
        rotate_left
        · (intro w hSw; (try dsimp only at hSw); go_simp; try with_reducible rfl)
        try simp only [Act.put, List.setIfInBounds_toArray, List.set_cons_succ, List.set_cons_zero]
        refine takeH (i := 9) (d := (some 38)) (v := ?_) rfl rfl (by kernel_rfl) (by kernel_rfl) (by kernel_rfl) (fun _ _ _ h => h) (by kernel_rfl) ?_ (by assumption) ?_
        rotate_left
        · (intro w hSw; (try dsimp only at hSw); go_simp; try with_reducible rfl)
        try simp only [Act.put, List.setIfInBounds_toArray, List.set_cons_succ, List.set_cons_zero]
        refine takeH (i := 10) (d := (some 39)) (v := ?_) rfl rfl (by kernel_rfl) (by kernel_rfl) (by kernel_rfl) (fun _ _ _ h => h) (by kernel_rfl) ?_ (by assumption) ?_
        rotate_left
        · (intro w hSw; (try dsimp only at hSw); go_simp; try with_reducible rfl)
        try simp only [Act.put, List.setIfInBounds_toArray, List.set_cons_succ, List.set_cons_zero]
        refine wpAnyH_ready (rs := [0, 6]) (by kernel_rfl) (by simp) ?_
        refine AllReadyH.cons rfl (fun K hK => ?_) (AllReadyH.cons rfl (fun K hK => ?_) AllReadyH.nil)
        · go_simp
          refine hK.out _ _ ?_ (fun hHeld => ?_)
          · exact HS2.out _ ((Below.refl (w4).heap.size (w4)).alloc (Nat.le_refl _) (.cells #[] 65)).drew
          clear hK K
          (try simp only [Act.put]); (try simp only [List.setIfInBounds_toArray]); (try simp only [List.set_cons_succ]); (try simp only [List.set_cons_zero])
          refine wpAnyH_ready (rs := [4, 6]) (by kernel_rfl) (by simp) ?_
          refine AllReadyH.cons rfl (fun K hK => ?_) (AllReadyH.cons rfl (fun K hK => ?_) AllReadyH.nil)
          · refine step_append_R (c := prC) (d := some 33) rfl rfl (.tmp 29) (.tmp 32) 25 rfl (w4).heap.size 65 i0 _ 2 32 Try.underlying25 hi0 hz0 hz1 hz2 rfl (by decide) _ _ _ rfl (World.ownsRow.drew (World.ownsRow_lit (w4) #[] 0 (Nat.le_refl _) (by simp) rfl)) _ rfl T (readsR_kept HA.out ((Below.refl (w4).heap.size (w4)).alloc (Nat.le_refl _) (.cells #[] 65)).drew) prC_len prC_one (by unfold maxLen; simp; omega) (by simp; omega) (by simp) ?_
            intro x5 w5 ho5 hg5
            have hb5 : Below (w4).heap.size (w4) w5 := Below.grown ((Below.refl (w4).heap.size (w4)).alloc (Nat.le_refl _) (.cells #[] 65)).drew hg5 (by simp) (fun k hk => by cases hk; exact Nat.le_refl _)
            refine hK.out _ _ ?_ (fun hHeld => ?_)
            · exact HS2.out _ hb5
            clear hK K
            (try simp only [Act.put]); (try simp only [List.setIfInBounds_toArray]); (try simp only [List.set_cons_succ]); (try simp only [List.set_cons_zero])
            have hz5 := hb5.size
            refine wpAnyH_ready (rs := [6]) (by kernel_rfl) (by simp) ?_
            refine AllReadyH.cons rfl (fun K hK => ?_) AllReadyH.nil
            go_simp
            refine hK.out _ _ ?_ (fun hHeld => ?_)
            · exact HS2.out _ (hb5.alloc hz5 (.cells #[.string y.1, .string y.2] 65))
            clear hK K
            (try simp only [Act.put]); (try simp only [List.setIfInBounds_toArray]); (try simp only [List.set_cons_succ]); (try simp only [List.set_cons_zero])
            refine wpAnyH_ready (rs := [7]) (by kernel_rfl) (by simp) ?_
            refine AllReadyH.cons rfl (fun K hK => ?_) AllReadyH.nil
            refine step_append_R (c := prC) (d := some 36) rfl rfl (.tmp 33) (.tmp 35) 25 rfl (w4).heap.size 65 i0 _ 2 32 Try.underlying25 hi0 hz0 hz1 hz2 rfl (by decide) _ _ _ rfl (World.ownsRow.alloc ho5 (.cells #[.string y.1, .string y.2] 65)) _ rfl [y] (pr_one_at (heap_alloc_new w5 (.cells #[.string y.1, .string y.2] 65))) prC_len prC_one (by unfold maxLen; simp; omega) (by simp; omega) (by simp; omega) ?_
            intro x6 w6 ho6 hg6
            have hb6 : Below (w4).heap.size (w4) w6 := Below.grown (hb5.alloc hz5 (.cells #[.string y.1, .string y.2] 65)) hg6 (by simp; omega) (fun k hk => (ho5.lt k hk).1)
            refine hK.out _ _ ?_ (fun hHeld => ?_)
            · exact HS2.out _ hb6
            clear hK K
            (try simp only [Act.put]); (try simp only [List.setIfInBounds_toArray]); (try simp only [List.set_cons_succ]); (try simp only [List.set_cons_zero])
            have hz6 := hb6.size
            refine wpAnyH_ready (rs := [11]) (by kernel_rfl) (by simp) ?_
            refine AllReadyH.cons rfl (fun K hK => ?_) AllReadyH.nil
            refine step_append_R (c := prC) (d := some 40) rfl rfl (.tmp 36) (.tmp 39) 25 rfl (w4).heap.size 65 i0 _ 2 32 Try.underlying25 hi0 hz0 hz1 hz2 rfl (by decide) _ _ _ rfl ho6 _ rfl D (readsR_kept HBc.out hb6) prC_len prC_one (by unfold maxLen; simp; omega) (by simp; omega) hz6 ?_
            intro x7 w7 ho7 hg7
            have hb7 : Below (w4).heap.size (w4) w7 := Below.grown hb6 hg7 hz6 (fun k hk => (ho6.lt k hk).1)
            refine hK.out _ _ ?_ (fun hHeld => ?_)
            · exact HS2.out _ hb7
            clear hK K
            (try simp only [Act.put]); (try simp only [List.setIfInBounds_toArray]); (try simp only [List.set_cons_succ]); (try simp only [List.set_cons_zero])
            refine takeH (i := 12) (d := (some 9)) (v := ?_) rfl rfl (by kernel_rfl) (by kernel_rfl) (by kernel_rfl) (fun _ _ _ h => h) (by kernel_rfl) ?_ (by assumption) ?_
            rotate_left
            · (intro w hSw; (try dsimp only at hSw); go_simp; try with_reducible rfl)
            (try simp only [Act.put]); (try simp only [List.setIfInBounds_toArray]); (try simp only [List.set_cons_succ]); (try simp only [List.set_cons_zero])
            refine wpAnyH_done (by kernel_rfl) ?_ _
            have hB7 : Below w.heap.size w w7 := hBq.trans (hb7.mono (by omega))
            have hoF0 : PrOwns w7 (w4).heap.size x7 (T ++ y :: D) := by
              unfold PrOwns OwnsR
              rw [List.length_append, List.length_cons, List.flatMap_append, List.flatMap_cons]
              have h7 := ho7
              simp only [List.length_cons, List.length_nil, List.flatMap_cons, List.flatMap_nil, List.append_nil, List.nil_append, Nat.zero_add, List.append_assoc] at h7
              rw [show T.length + (D.length + 1) = T.length + 1 + D.length by omega]
              exact h7
            have hoF : PrOwns w7 w.heap.size x7 (T ++ y :: D) := ownsR_base hoF0 hwq2
            have hinl : (T ++ y :: D).length ≤ 17 := by rw [List.length_append, List.length_cons]; omega
            obtain ⟨ax, cx, hxv⟩ := readsR_shape (ownsR_reads prC_len hoF)
            subst hxv
            have hb7z := hB7.size
            clear hHeld HA HBc HS2 ho5 hg5 hb5 ho6 hg6 hb6 ho7 hg7 hb7 hoF0 hBq
            generalize T ++ y :: D = O at *
            go_wp2_with fail
            refine (specFieldsOk_any _ O _ (ownsR_reads prC_len hoF) (by omega)).mono ?_
            rintro e w8 ⟨rfl, hb8⟩
            have hB8 := hB7.trans (hb8.mono hb7z)
            have ho8 := ownsR_kept hoF hb8
            have hz8 := hB8.size
            clear hb8 hoF hB7
            cases hok2 : prOkB O with
            | true =>
              have HR : Hid (prPutR l y = O) := by show _ = _; unfold prPutR; rw [HOK.out, HPL.out, hok2]; rfl
              have HB : Hid (prPutB l y = true) := by show _ = _; unfold prPutB; rw [HOK.out, HPL.out, hok2]; rfl
              have HF : Hid (prPutF l y = !prThere l y.1) := by show _ = _; unfold prPutF; rw [HB.out]; rfl
              clear hok2
              go_wp2_with fail
              go_ret3
              exact ⟨_, by rw [HF.out, HTH.out, HB.out]; rfl, by rw [HR.out]; exact ho8, hB8⟩
            | false =>
              have HR : Hid (prPutR l y = l) := by show _ = _; unfold prPutR; rw [HOK.out, HPL.out, hok2]; rfl
              have HB : Hid (prPutB l y = false) := by show _ = _; unfold prPutB; rw [HOK.out, HPL.out, hok2]; rfl
              have HF : Hid (prPutF l y = false) := by show _ = _; unfold prPutF; rw [HB.out]; rfl
              have ho9 : (w8.alloc (.cells #[] 65)).ownsRow w.heap.size 65 2 (.slice (some ⟨w8.heap.size, 0, none⟩) 0 0) 0 [] := World.ownsRow_lit w8 #[] 0 hz8 (by simp) rfl
              have hB9 : Below w.heap.size w (w8.alloc (.cells #[] 65)) := hB8.alloc hz8 _
              have hr9 := readsR_kept hr hB9
              clear hok2 ho8
              go_wp2_with (at_builtin; refine append_R (c := prC) rfl (.tmp 44) (.tmp 45) 25 rfl w.heap.size 65 i0 _ 2 32 Try.underlying25 hi0 hz0 hz1 hz2 rfl (by decide) _ _ _ rfl ho9 _ rfl l hr9 prC_len prC_one (by unfold maxLen; omega) (by omega) (by simp; omega) ?_)
              intro xa wa howna hgrowa
              have hoa : PrOwns wa w.heap.size xa l := by unfold PrOwns OwnsR; first | simpa using howna | simpa [h00] using howna
              have hBa : Below w.heap.size w wa := hB9.grown hgrowa (by simp; omega) (fun j hj => (ho9.lt j hj).1)
              clear howna hgrowa
              go_wp2_with fail
              go_ret3
              exact ⟨_, by rw [HF.out, HB.out]; rfl, by rw [HR.out]; exact hoa, hBa⟩
          · go_simp
            refine hK.out _ _ ?_ (fun hHeld => ?_)
            · exact HS2.out _ (((Below.refl (w4).heap.size (w4)).alloc (Nat.le_refl _) (.cells #[] 65)).alloc (by simp) (.cells #[.string y.1, .string y.2] 65)).drew
            clear hK K
            (try simp only [Act.put]); (try simp only [List.setIfInBounds_toArray]); (try simp only [List.set_cons_succ]); (try simp only [List.set_cons_zero])
            refine wpAnyH_ready (rs := [4]) (by kernel_rfl) (by simp) ?_
            refine AllReadyH.cons rfl (fun K hK => ?_) AllReadyH.nil
            refine step_append_R (c := prC) (d := some 33) rfl rfl (.tmp 29) (.tmp 32) 25 rfl (w4).heap.size 65 i0 _ 2 32 Try.underlying25 hi0 hz0 hz1 hz2 rfl (by decide) _ _ _ rfl (World.ownsRow.drew (World.ownsRow.alloc (World.ownsRow_lit (w4) #[] 0 (Nat.le_refl _) (by simp) rfl) (.cells #[.string y.1, .string y.2] 65))) _ rfl T (readsR_kept HA.out (((Below.refl (w4).heap.size (w4)).alloc (Nat.le_refl _) (.cells #[] 65)).alloc (by simp) (.cells #[.string y.1, .string y.2] 65)).drew) prC_len prC_one (by unfold maxLen; simp; omega) (by simp; omega) (by simp; omega) ?_
            intro x5 w5 ho5 hg5
            have hb5 : Below (w4).heap.size (w4) w5 := Below.grown (((Below.refl (w4).heap.size (w4)).alloc (Nat.le_refl _) (.cells #[] 65)).alloc (by simp) (.cells #[.string y.1, .string y.2] 65)).drew hg5 (by simp; omega) (fun k hk => by cases hk; exact Nat.le_refl _)
            refine hK.out _ _ ?_ (fun hHeld => ?_)
            · exact HS2.out _ hb5
            clear hK K
            (try simp only [Act.put]); (try simp only [List.setIfInBounds_toArray]); (try simp only [List.set_cons_succ]); (try simp only [List.set_cons_zero])
            have hz5 := hb5.size
            have hq5 : w5.heap[(w4).heap.size + 1]? = some (.cells #[.string y.1, .string y.2] 65) := (hg5.block ((w4).heap.size + 1) (by simp) (show some ((w4).heap.size + 1) ≠ some (w4).heap.size by simp)).trans (heap_alloc2_new (w4) (.cells #[] 65) (.cells #[.string y.1, .string y.2] 65))
            refine wpAnyH_ready (rs := [7]) (by kernel_rfl) (by simp) ?_
            refine AllReadyH.cons rfl (fun K hK => ?_) AllReadyH.nil
            refine step_append_R (c := prC) (d := some 36) rfl rfl (.tmp 33) (.tmp 35) 25 rfl (w4).heap.size 65 i0 _ 2 32 Try.underlying25 hi0 hz0 hz1 hz2 rfl (by decide) _ _ _ rfl ho5 _ rfl [y] (pr_one_at hq5) prC_len prC_one (by unfold maxLen; simp; omega) (by simp; omega) hz5 ?_
            intro x6 w6 ho6 hg6
            have hb6 : Below (w4).heap.size (w4) w6 := Below.grown hb5 hg6 hz5 (fun k hk => (ho5.lt k hk).1)
            refine hK.out _ _ ?_ (fun hHeld => ?_)
            · exact HS2.out _ hb6
            clear hK K
            (try simp only [Act.put]); (try simp only [List.setIfInBounds_toArray]); (try simp only [List.set_cons_succ]); (try simp only [List.set_cons_zero])
            have hz6 := hb6.size
            refine wpAnyH_ready (rs := [11]) (by kernel_rfl) (by simp) ?_
            refine AllReadyH.cons rfl (fun K hK => ?_) AllReadyH.nil
            refine step_append_R (c := prC) (d := some 40) rfl rfl (.tmp 36) (.tmp 39) 25 rfl (w4).heap.size 65 i0 _ 2 32 Try.underlying25 hi0 hz0 hz1 hz2 rfl (by decide) _ _ _ rfl ho6 _ rfl D (readsR_kept HBc.out hb6) prC_len prC_one (by unfold maxLen; simp; omega) (by simp; omega) hz6 ?_
            intro x7 w7 ho7 hg7
            have hb7 : Below (w4).heap.size (w4) w7 := Below.grown hb6 hg7 hz6 (fun k hk => (ho6.lt k hk).1)
            refine hK.out _ _ ?_ (fun hHeld => ?_)
            · exact HS2.out _ hb7
            clear hK K
            (try simp only [Act.put]); (try simp only [List.setIfInBounds_toArray]); (try simp only [List.set_cons_succ]); (try simp only [List.set_cons_zero])
            refine takeH (i := 12) (d := (some 9)) (v := ?_) rfl rfl (by kernel_rfl) (by kernel_rfl) (by kernel_rfl) (fun _ _ _ h => h) (by kernel_rfl) ?_ (by assumption) ?_
            rotate_left
            · (intro w hSw; (try dsimp only at hSw); go_simp; try with_reducible rfl)
            (try simp only [Act.put]); (try simp only [List.setIfInBounds_toArray]); (try simp only [List.set_cons_succ]); (try simp only [List.set_cons_zero])
            refine wpAnyH_done (by kernel_rfl) ?_ _
            have hB7 : Below w.heap.size w w7 := hBq.trans (hb7.mono (by omega))
            have hoF0 : PrOwns w7 (w4).heap.size x7 (T ++ y :: D) := by
              unfold PrOwns OwnsR
              rw [List.length_append, List.length_cons, List.flatMap_append, List.flatMap_cons]
              have h7 := ho7
              simp only [List.length_cons, List.length_nil, List.flatMap_cons, List.flatMap_nil, List.append_nil, List.nil_append, Nat.zero_add, List.append_assoc] at h7
              rw [show T.length + (D.length + 1) = T.length + 1 + D.length by omega]
              exact h7
            have hoF : PrOwns w7 w.heap.size x7 (T ++ y :: D) := ownsR_base hoF0 hwq2
            have hinl : (T ++ y :: D).length ≤ 17 := by rw [List.length_append, List.length_cons]; omega
            obtain ⟨ax, cx, hxv⟩ := readsR_shape (ownsR_reads prC_len hoF)
            subst hxv
            have hb7z := hB7.size
            clear hHeld HA HBc HS2 ho5 hg5 hb5 ho6 hg6 hb6 ho7 hg7 hb7 hoF0 hBq
            generalize T ++ y :: D = O at *
            go_wp2_with fail
            refine (specFieldsOk_any _ O _ (ownsR_reads prC_len hoF) (by omega)).mono ?_
            rintro e w8 ⟨rfl, hb8⟩
            have hB8 := hB7.trans (hb8.mono hb7z)
            have ho8 := ownsR_kept hoF hb8
            have hz8 := hB8.size
            clear hb8 hoF hB7
            cases hok2 : prOkB O with
            | true =>
              have HR : Hid (prPutR l y = O) := by show _ = _; unfold prPutR; rw [HOK.out, HPL.out, hok2]; rfl
              have HB : Hid (prPutB l y = true) := by show _ = _; unfold prPutB; rw [HOK.out, HPL.out, hok2]; rfl
              have HF : Hid (prPutF l y = !prThere l y.1) := by show _ = _; unfold prPutF; rw [HB.out]; rfl
              clear hok2
              go_wp2_with fail
              go_ret3
              exact ⟨_, by rw [HF.out, HTH.out, HB.out]; rfl, by rw [HR.out]; exact ho8, hB8⟩
            | false =>
              have HR : Hid (prPutR l y = l) := by show _ = _; unfold prPutR; rw [HOK.out, HPL.out, hok2]; rfl
              have HB : Hid (prPutB l y = false) := by show _ = _; unfold prPutB; rw [HOK.out, HPL.out, hok2]; rfl
              have HF : Hid (prPutF l y = false) := by show _ = _; unfold prPutF; rw [HB.out]; rfl
              have ho9 : (w8.alloc (.cells #[] 65)).ownsRow w.heap.size 65 2 (.slice (some ⟨w8.heap.size, 0, none⟩) 0 0) 0 [] := World.ownsRow_lit w8 #[] 0 hz8 (by simp) rfl
              have hB9 : Below w.heap.size w (w8.alloc (.cells #[] 65)) := hB8.alloc hz8 _
              have hr9 := readsR_kept hr hB9
              clear hok2 ho8
              go_wp2_with (at_builtin; refine append_R (c := prC) rfl (.tmp 44) (.tmp 45) 25 rfl w.heap.size 65 i0 _ 2 32 Try.underlying25 hi0 hz0 hz1 hz2 rfl (by decide) _ _ _ rfl ho9 _ rfl l hr9 prC_len prC_one (by unfold maxLen; omega) (by omega) (by simp; omega) ?_)
              intro xa wa howna hgrowa
              have hoa : PrOwns wa w.heap.size xa l := by unfold PrOwns OwnsR; first | simpa using howna | simpa [h00] using howna
              have hBa : Below w.heap.size w wa := hB9.grown hgrowa (by simp; omega) (fun j hj => (ho9.lt j hj).1)
              clear howna hgrowa
              go_wp2_with fail
              go_ret3
              exact ⟨_, by rw [HF.out, HB.out]; rfl, by rw [HR.out]; exact hoa, hBa⟩
        · go_simp
          refine hK.out _ _ ?_ (fun hHeld => ?_)
          · exact HS2.out _ ((Below.refl (w4).heap.size (w4)).alloc (Nat.le_refl _) (.cells #[.string y.1, .string y.2] 65)).drew
          clear hK K
          (try simp only [Act.put]); (try simp only [List.setIfInBounds_toArray]); (try simp only [List.set_cons_succ]); (try simp only [List.set_cons_zero])
          refine wpAnyH_ready (rs := [0]) (by kernel_rfl) (by simp) ?_
          refine AllReadyH.cons rfl (fun K hK => ?_) AllReadyH.nil
          go_simp
          refine hK.out _ _ ?_ (fun hHeld => ?_)
          · exact HS2.out _ (((Below.refl (w4).heap.size (w4)).alloc (Nat.le_refl _) (.cells #[.string y.1, .string y.2] 65)).alloc (by simp) (.cells #[] 65)).drew
          clear hK K
          (try simp only [Act.put]); (try simp only [List.setIfInBounds_toArray]); (try simp only [List.set_cons_succ]); (try simp only [List.set_cons_zero])
          refine wpAnyH_ready (rs := [4]) (by kernel_rfl) (by simp) ?_
          refine AllReadyH.cons rfl (fun K hK => ?_) AllReadyH.nil
          refine step_append_R (c := prC) (d := some 33) rfl rfl (.tmp 29) (.tmp 32) 25 rfl (w4).heap.size 65 i0 _ 2 32 Try.underlying25 hi0 hz0 hz1 hz2 rfl (by decide) _ _ _ rfl (World.ownsRow.drew hlitB) _ rfl T (readsR_kept HA.out (((Below.refl (w4).heap.size (w4)).alloc (Nat.le_refl _) (.cells #[.string y.1, .string y.2] 65)).alloc (by simp) (.cells #[] 65)).drew) prC_len prC_one (by unfold maxLen; simp; omega) (by simp; omega) (by simp; omega) ?_
          intro x5 w5 ho5 hg5
          have hb5 : Below (w4).heap.size (w4) w5 := Below.grown (((Below.refl (w4).heap.size (w4)).alloc (Nat.le_refl _) (.cells #[.string y.1, .string y.2] 65)).alloc (by simp) (.cells #[] 65)).drew hg5 (by simp; omega) (fun k hk => by cases hk; simp)
          refine hK.out _ _ ?_ (fun hHeld => ?_)
          · exact HS2.out _ hb5
          clear hK K
          (try simp only [Act.put]); (try simp only [List.setIfInBounds_toArray]); (try simp only [List.set_cons_succ]); (try simp only [List.set_cons_zero])
          have hz5 := hb5.size
          have hq5 : w5.heap[(w4).heap.size]? = some (.cells #[.string y.1, .string y.2] 65) := (hg5.block (w4).heap.size (by simp; omega) (show some (w4).heap.size ≠ some ((w4).heap.size + 1) by simp)).trans ((Below.heap_alloc ((w4).alloc (.cells #[.string y.1, .string y.2] 65)) (.cells #[] 65) (w4).heap.size (by simp)).trans (heap_alloc_new (w4) (.cells #[.string y.1, .string y.2] 65)))
          refine wpAnyH_ready (rs := [7]) (by kernel_rfl) (by simp) ?_
          refine AllReadyH.cons rfl (fun K hK => ?_) AllReadyH.nil
          refine step_append_R (c := prC) (d := some 36) rfl rfl (.tmp 33) (.tmp 35) 25 rfl (w4).heap.size 65 i0 _ 2 32 Try.underlying25 hi0 hz0 hz1 hz2 rfl (by decide) _ _ _ rfl ho5 _ rfl [y] (pr_one_at hq5) prC_len prC_one (by unfold maxLen; simp; omega) (by simp; omega) hz5 ?_
          intro x6 w6 ho6 hg6
          have hb6 : Below (w4).heap.size (w4) w6 := Below.grown hb5 hg6 hz5 (fun k hk => (ho5.lt k hk).1)
          refine hK.out _ _ ?_ (fun hHeld => ?_)
          · exact HS2.out _ hb6
          clear hK K
          (try simp only [Act.put]); (try simp only [List.setIfInBounds_toArray]); (try simp only [List.set_cons_succ]); (try simp only [List.set_cons_zero])
          have hz6 := hb6.size
          refine wpAnyH_ready (rs := [11]) (by kernel_rfl) (by simp) ?_
          refine AllReadyH.cons rfl (fun K hK => ?_) AllReadyH.nil
          refine step_append_R (c := prC) (d := some 40) rfl rfl (.tmp 36) (.tmp 39) 25 rfl (w4).heap.size 65 i0 _ 2 32 Try.underlying25 hi0 hz0 hz1 hz2 rfl (by decide) _ _ _ rfl ho6 _ rfl D (readsR_kept HBc.out hb6) prC_len prC_one (by unfold maxLen; simp; omega) (by simp; omega) hz6 ?_
          intro x7 w7 ho7 hg7
          have hb7 : Below (w4).heap.size (w4) w7 := Below.grown hb6 hg7 hz6 (fun k hk => (ho6.lt k hk).1)
          refine hK.out _ _ ?_ (fun hHeld => ?_)
          · exact HS2.out _ hb7
          clear hK K
          (try simp only [Act.put]); (try simp only [List.setIfInBounds_toArray]); (try simp only [List.set_cons_succ]); (try simp only [List.set_cons_zero])
          refine takeH (i := 12) (d := (some 9)) (v := ?_) rfl rfl (by kernel_rfl) (by kernel_rfl) (by kernel_rfl) (fun _ _ _ h => h) (by kernel_rfl) ?_ (by assumption) ?_
          rotate_left
          · (intro w hSw; (try dsimp only at hSw); go_simp; try with_reducible rfl)
          (try simp only [Act.put]); (try simp only [List.setIfInBounds_toArray]); (try simp only [List.set_cons_succ]); (try simp only [List.set_cons_zero])
          refine wpAnyH_done (by kernel_rfl) ?_ _
          have hB7 : Below w.heap.size w w7 := hBq.trans (hb7.mono (by omega))
          have hoF0 : PrOwns w7 (w4).heap.size x7 (T ++ y :: D) := by
            unfold PrOwns OwnsR
            rw [List.length_append, List.length_cons, List.flatMap_append, List.flatMap_cons]
            have h7 := ho7
            simp only [List.length_cons, List.length_nil, List.flatMap_cons, List.flatMap_nil, List.append_nil, List.nil_append, Nat.zero_add, List.append_assoc] at h7
            rw [show T.length + (D.length + 1) = T.length + 1 + D.length by omega]
            exact h7
          have hoF : PrOwns w7 w.heap.size x7 (T ++ y :: D) := ownsR_base hoF0 hwq2
          have hinl : (T ++ y :: D).length ≤ 17 := by rw [List.length_append, List.length_cons]; omega
          obtain ⟨ax, cx, hxv⟩ := readsR_shape (ownsR_reads prC_len hoF)
          subst hxv
          have hb7z := hB7.size
          clear hHeld HA HBc HS2 ho5 hg5 hb5 ho6 hg6 hb6 ho7 hg7 hb7 hoF0 hBq
          generalize T ++ y :: D = O at *
          go_wp2_with fail
          refine (specFieldsOk_any _ O _ (ownsR_reads prC_len hoF) (by omega)).mono ?_
          rintro e w8 ⟨rfl, hb8⟩
          have hB8 := hB7.trans (hb8.mono hb7z)
          have ho8 := ownsR_kept hoF hb8
          have hz8 := hB8.size
          clear hb8 hoF hB7
          cases hok2 : prOkB O with
          | true =>
            have HR : Hid (prPutR l y = O) := by show _ = _; unfold prPutR; rw [HOK.out, HPL.out, hok2]; rfl
            have HB : Hid (prPutB l y = true) := by show _ = _; unfold prPutB; rw [HOK.out, HPL.out, hok2]; rfl
            have HF : Hid (prPutF l y = !prThere l y.1) := by show _ = _; unfold prPutF; rw [HB.out]; rfl
            clear hok2
            go_wp2_with fail
            go_ret3
            exact ⟨_, by rw [HF.out, HTH.out, HB.out]; rfl, by rw [HR.out]; exact ho8, hB8⟩
          | false =>
            have HR : Hid (prPutR l y = l) := by show _ = _; unfold prPutR; rw [HOK.out, HPL.out, hok2]; rfl
            have HB : Hid (prPutB l y = false) := by show _ = _; unfold prPutB; rw [HOK.out, HPL.out, hok2]; rfl
            have HF : Hid (prPutF l y = false) := by show _ = _; unfold prPutF; rw [HB.out]; rfl
            have ho9 : (w8.alloc (.cells #[] 65)).ownsRow w.heap.size 65 2 (.slice (some ⟨w8.heap.size, 0, none⟩) 0 0) 0 [] := World.ownsRow_lit w8 #[] 0 hz8 (by simp) rfl
            have hB9 : Below w.heap.size w (w8.alloc (.cells #[] 65)) := hB8.alloc hz8 _
            have hr9 := readsR_kept hr hB9
            clear hok2 ho8
            go_wp2_with (at_builtin; refine append_R (c := prC) rfl (.tmp 44) (.tmp 45) 25 rfl w.heap.size 65 i0 _ 2 32 Try.underlying25 hi0 hz0 hz1 hz2 rfl (by decide) _ _ _ rfl ho9 _ rfl l hr9 prC_len prC_one (by unfold maxLen; omega) (by omega) (by simp; omega) ?_)
            intro xa wa howna hgrowa
            have hoa : PrOwns wa w.heap.size xa l := by unfold PrOwns OwnsR; first | simpa using howna | simpa [h00] using howna
            have hBa : Below w.heap.size w wa := hB9.grown hgrowa (by simp; omega) (fun j hj => (ho9.lt j hj).1)
            clear howna hgrowa
            go_wp2_with fail
            go_ret3
            exact ⟨_, by rw [HF.out, HB.out]; rfl, by rw [HR.out]; exact hoa, hBa⟩
end Go.Proofs.Ytdaahcenplepjaa
