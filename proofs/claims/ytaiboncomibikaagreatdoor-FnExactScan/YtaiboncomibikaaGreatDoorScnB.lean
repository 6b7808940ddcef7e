/- The program's Scan. -/
import Derived.Test.YtaiboncomibikaaGreatDoorScnA
namespace Go.Proofs.YtaiboncomibikaaGreatDoor
open Go.RowKit
set_option linter.unusedVariables false

theorem bh_leq {h k : ByteArray} {b : Bool} (e : bhB h k = b) : (Op.bytesLess k.toList h.toList || (k.toList == h.toList)) = !b := by
  unfold bhB at e
  rw [← e, bytesLess_eq, bytesLess_eq]
  by_cases h1 : k.toList < h.toList
  · have h2 : ¬ h.toList < k.toList := List.lt_asymm h1
    simp [h1, h2]
  · by_cases h3 : k.toList = h.toList
    · simp [h3]
    · have h2 : h.toList < k.toList := by
        rcases List.le_iff_lt_or_eq.1 (List.not_lt.1 h1) with h' | h'
        · exact h'
        · exact absurd h'.symm h3
      simp [h1, h2, h3]
theorem goodN_of {n : Int} {l : List Ent} {p : ByteArray} {c : Int} (h1 : bsOkB n l = true) (h2 : (p.size : Int) ≤ 12) (h3 : 1 ≤ c) : goodN n l p c = true := by
  unfold goodN; rw [h1, decide_eq_true h2, decide_eq_true h3]; rfl
set_option maxHeartbeats 8000000 in
set_option maxRecDepth 100000 in
theorem implScan_any (n : Int) (v : Value) (l : List Row) (h p : ByteArray) (c : Int) (w : World) (hr : EsReads w v l) (hs : EsSmall l) (hh : h.size ≤ 9223372036854775806) (hp : p.size ≤ 9223372036854775806) (hc : -9223372036854775808 ≤ c ∧ c ≤ 9223372036854775807) :
    Calls Tryz.prog 7 #[bsV n v, .string h, .string p, .int .i64 c] w fun e w' => ∃ u, e = .returned (.tuple #[u, .string (scanN n (l.map Row.e) h p c)]) ∧ Owns w' w.heap.size u (scanK n (l.map Row.e) h p c) ∧ Below w.heap.size w w' := by
  obtain ⟨ao, cap, rfl⟩ := readsR_shape hr.rows
  obtain ⟨i0, hi, iz0, iz1, iz2⟩ := info_parts infoS
  have hlen := hs.len
  have HC : Hid (-9223372036854775808 ≤ c ∧ c ≤ 9223372036854775807) := hc
  clear hc
  go_enter Tryz.func7, Tryz.ntmps7
  go_wp2_with fail
  have hB0 : Below w.heap.size w (w.alloc (.cells #[.int .i64 n, .slice ao l.length cap] 31)) := (Below.refl _ w).alloc (Nat.le_refl _) _
  have q0 : Hid _ := heap_alloc_new w (.cells #[.int .i64 n, .slice ao l.length cap] 31)
  refine (implBaseOk_any n _ l _ (esReads_kept hr hB0) hs).mono ?_
  rintro x w1 ⟨rfl, hb1⟩
  have hB1 := hB0.trans (hb1.mono hB0.size)
  have q1 := (hb1.block w.heap.size (by simp)).trans q0.out
  have b1 : w1.cell? ⟨w.heap.size, 1, none⟩ = some (.slice ao l.length cap) := by rw [cell_of_row _ _ _ _ _ _ q1]; rfl
  clear hb1 hB0 q0 q1
  cases hok : bsOkB n (l.map Row.e) with
  | false =>
    have HK : Hid _ := scan_bad (h := h) (p := p) (show goodN n (l.map Row.e) p c = false by unfold goodN; rw [hok]; rfl)
    clear hok b1
    go_wp2_with fail
    go_ret2
    exact ⟨_, by rw [HK.out.2]; rfl, by rw [HK.out.1]; exact World.ownsRow_nil _ _ _ _, hB1⟩
  | true =>
    by_cases h12 : (p.size : Int) ≤ 12
    · by_cases h1c : 1 ≤ c
      · have HG : Hid (goodN n (l.map Row.e) p c = true) := goodN_of hok h12 h1c
        have hc2 := HC.out.2
        clear hok
        go_wp2_with fail
        clear b1
        go_loopw [3, 10, 11, 29] (fun q u s i wr => ∃ j : Nat, j ≤ l.length ∧ i = .int .i64 (j : Int) ∧ (∃ m : Nat, (m : Int) ≤ c ∧ Hid ((abv h ((l.take j).map Row.e)).length = m) ∧ q = .int .i64 (c - (m : Int))) ∧ s = .string (lastK (abv h ((l.take j).map Row.e))) ∧ Hid (Owns wr w.heap.size u (kk p (abv h ((l.take j).map Row.e)))) ∧ Below w.heap.size w wr) (fun _ _ _ i _ => l.length - (intOf i).toNat)
        case atStart => exact ⟨0, Nat.zero_le _, rfl, ⟨0, by omega, by show _ = _; rfl, by rw [Int.natCast_zero, Int.sub_zero]⟩, rfl, World.ownsRow_nil _ _ _ _, hB1⟩
        case round =>
          obtain ⟨j, hj, rfl, ⟨m, hm, HM, rfl⟩, rfl, HO, hB⟩ := hrel
          clear hB1
          by_cases hlt : j < l.length
          · obtain ⟨b, off, rfl, hb, hnc, hcm, hc⟩ := es_some hr.rows (by omega)
            obtain ⟨c0, c1, c2, c3, c4, c5, c6⟩ := es_cells hc hB hb hlt
            have hk1 : (j : Int) < (l.length : Int) := by omega
            have hky := (hs.each _ (esAt_mem hlt)).key
            have HTS : Hid _ := take_snocE hlt
            clear hc hnc hcm hr
            cases hbh : bhB h (esAt l j).e.key with
            | false =>
              have HAB : Hid (abv h ((l.take (j + 1)).map Row.e) = abv h ((l.take j).map Row.e)) := by show _ = _; rw [HTS.out]; exact abv_miss hbh
              have hlq := bh_leq hbh
              simp only [Bool.not_false] at hlq
              clear hbh
              go_wp2_with fail
              have hB3 : Below w.heap.size w (wr.alloc (.cells (rowC (esAt l j)).toArray 43)) := hB.alloc hB.size _
              have HO3 : Hid _ := World.ownsRow.alloc HO.out (.cells (rowC (esAt l j)).toArray 43)
              go_roundw
              case rel => exact ⟨j + 1, hlt, by go_num, ⟨m, hm, by rw [HAB.out]; exact HM, rfl⟩, by rw [HAB.out], by rw [HAB.out]; exact HO3.out, hB3⟩
              case measure => simp [intOf]; omega
            | true =>
              have HBH : Hid (bhB h (esAt l j).e.key = true) := hbh
              have hlq := bh_leq hbh
              simp only [Bool.not_true] at hlq
              clear hbh
              by_cases hmc : (m : Int) = c
              · obtain ⟨HK1, HK2⟩ := scan_full HG.out hlt HBH.out (by rw [HM.out]; exact hmc)
                have HK1 : Hid _ := HK1
                have HK2 : Hid _ := HK2
                have hz : ((c - (m : Int)) == 0) = true := by simp; omega
                have hB3 : Below w.heap.size w (wr.alloc (.cells (rowC (esAt l j)).toArray 43)) := hB.alloc hB.size _
                have HO3 : Hid _ := World.ownsRow.alloc HO.out (.cells (rowC (esAt l j)).toArray 43)
                clear hmc
                go_wp2_with fail
                go_ret2
                exact ⟨_, by rw [HK2.out]; rfl, by rw [HK1.out]; exact HO3.out, hB3⟩
              · have hz : ((c - (m : Int)) == 0) = false := by simp; omega
                have hm1 : (m : Int) + 1 ≤ c := by omega
                have HAB : Hid (abv h ((l.take (j + 1)).map Row.e) = abv h ((l.take j).map Row.e) ++ [(esAt l j).e]) := by show _ = _; rw [HTS.out]; exact abv_hit HBH.out
                have HLK : Hid (lastK (abv h ((l.take (j + 1)).map Row.e)) = (esAt l j).e.key) := by show _ = _; rw [HAB.out]; exact lastK_snoc _ _
                have HM1 : Hid ((abv h ((l.take (j + 1)).map Row.e)).length = m + 1) := by show _ = _; rw [HAB.out, List.length_append, HM.out]; rfl
                clear hmc
                go_wp2_with fail
                refine (implM_any p (esAt l j).e.key _ hp (by omega)).mono ?_
                rintro e w2 ⟨rfl, m2, rfl⟩
                obtain ⟨w3, hw3⟩ : ∃ W, (wr.alloc (.cells (rowC (esAt l j)).toArray 43)).drewN m2 = W := ⟨_, rfl⟩
                have hb3 : Below wr.heap.size wr w3 := by rw [← hw3]; exact ((Below.refl _ wr).alloc (Nat.le_refl _) _).trans ((below_drewN _ _).mono (by simp))
                have k3 : w3.heap[wr.heap.size]? = some (.cells (rowC (esAt l j)).toArray 43 (0, 0)) := by rw [← hw3]; exact heap_alloc_new wr _
                have k0 : w3.cell? ⟨wr.heap.size, 0, none⟩ = some (.string (esAt l j).e.key) := by rw [cell_of_row _ _ _ _ _ _ k3]; rfl
                rw [show (wr.alloc (.cells #[.string (esAt l j).e.key, .int .i64 (esAt l j).e.til, .int .i64 (esAt l j).e.kind, .string (esAt l j).e.text, .slice (esAt l j).al (esAt l j).e.list.length (esAt l j).cl, .slice (esAt l j).as_ (esAt l j).e.scores.length (esAt l j).cs, .slice (esAt l j).af (esAt l j).e.fields.length (esAt l j).cf] 43)).drewN m2 = w3 from hw3]
                have HB3 : Hid _ := hB.trans (hb3.mono hB.size)
                have HO3 : Hid _ := owns_kept HO.out hb3
                clear hw3 k3 hb3 HO hB c0 c1 c2 c3 c4 c5 c6
                have hn := kk_len p (abv h ((l.take j).map Row.e))
                have hn2 := abv_len h ((l.take j).map Row.e)
                rw [List.length_map, List.length_take] at hn2
                generalize hA : mtch p.data.toList (esAt l j).e.key.data.toList = R
                cases R with
                | true =>
                  have HH : Hid _ := kk_hit (l := abv h ((l.take j).map Row.e)) hA
                  clear hA
                  go_wp2_with (at_builtin; refine wpList_append_own _ rfl (.tmp 49) (.tmp 52) 26 rfl w.heap.size 9 i0 (.string ByteArray.empty) 1 16 Tryz.underlying26 hi iz0 iz1 iz2 rfl (by decide) _ _ _ rfl (World.ownsRow.alloc HO3.out _) ⟨w3.heap.size, 0, none⟩ 1 1 [.string (esAt l j).e.key] rfl rfl (cell_one_new _ _ _) (by simp [Value.oneCell']) (by unfold maxLen; omega) (by omega) (by simp; have := HB3.out.size; omega) ?_; intro v' w4 hown hgrow _)
                  have hO4 : Owns w4 w.heap.size v' (kk p (abv h ((l.take j).map Row.e)) ++ [(esAt l j).e.key]) := by
                    unfold Owns
                    rw [List.length_append, List.map_append]
                    exact hown
                  have hB4 : Below w.heap.size w w4 := (HB3.out.alloc HB3.out.size _).grown hgrow (by simp; have := HB3.out.size; omega) (fun k hk => (World.ownsRow.lt HO3.out k hk).1)
                  go_roundw
                  case rel => exact ⟨j + 1, hlt, by go_num, ⟨m + 1, by omega, HM1, by go_num⟩, by rw [HLK.out], by rw [HAB.out, HH.out]; exact hO4, hB4⟩
                  case measure => simp [intOf]; omega
                | false =>
                  have HH : Hid _ := kk_miss (l := abv h ((l.take j).map Row.e)) hA
                  clear hA
                  go_wp2_with fail
                  go_roundw
                  case rel => exact ⟨j + 1, hlt, by go_num, ⟨m + 1, by omega, HM1, by go_num⟩, by rw [HLK.out], by rw [HAB.out, HH.out]; exact HO3.out, HB3.out⟩
                  case measure => simp [intOf]; omega
          · obtain rfl : j = l.length := by omega
            have HK : Hid _ := scan_end (h := h) HG.out (by have := HM.out; rw [List.take_length] at this; rw [this]; exact hm)
            go_wp2_with fail
            go_ret2
            exact ⟨_, by rw [HK.out.2]; rfl, by rw [HK.out.1]; have := HO.out; rw [List.take_length] at this; exact this, hB⟩
      · have HK : Hid _ := scan_bad (n := n) (l := l.map Row.e) (h := h) (p := p) (show goodN n (l.map Row.e) p c = false by unfold goodN; rw [decide_eq_false h1c, Bool.and_false, Bool.and_false])
        clear hok b1
        go_wp2_with fail
        go_ret2
        exact ⟨_, by rw [HK.out.2]; rfl, by rw [HK.out.1]; exact World.ownsRow_nil _ _ _ _, hB1⟩
    · have HK : Hid _ := scan_bad (n := n) (l := l.map Row.e) (h := h) (p := p) (show goodN n (l.map Row.e) p c = false by unfold goodN; rw [decide_eq_false h12, Bool.false_and, Bool.and_false])
      clear hok b1
      go_wp2_with fail
      go_ret2
      exact ⟨_, by rw [HK.out.2]; rfl, by rw [HK.out.1]; exact World.ownsRow_nil _ _ _ _, hB1⟩
end Go.Proofs.YtaiboncomibikaaGreatDoor
