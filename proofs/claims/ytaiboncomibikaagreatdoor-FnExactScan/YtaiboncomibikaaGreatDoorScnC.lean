/- The model's Scan. -/
import Derived.Test.YtaiboncomibikaaGreatDoorScnB
import Derived.Test.YtaiboncomibikaaGreatDoorEnK
namespace Go.Proofs.YtaiboncomibikaaGreatDoor
open Go.RowKit
set_option linter.unusedVariables false

set_option maxHeartbeats 8000000 in
set_option maxRecDepth 100000 in
theorem specScan_any (n : Int) (v : Value) (l : List Row) (h p : ByteArray) (c : Int) (w : World) (hr : EsReads w v l) (hs : EsSmall l) (hn : -9223372036854775808 ≤ n ∧ n ≤ 9223372036854775807) (hh : h.size ≤ 9223372036854775806) (hp : p.size ≤ 9223372036854775806) (hc : -9223372036854775808 ≤ c ∧ c ≤ 9223372036854775807) :
    Calls Tryz.prog 5 #[bsV n v, .string h, .string p, .int .i64 c] w fun e w' => ∃ u, e = .returned (.tuple #[u, .string (scanN n (l.map Row.e) h p c)]) ∧ Owns w' w.heap.size u (scanK n (l.map Row.e) h p c) ∧ Below w.heap.size w w' := by
  obtain ⟨ao, cap, rfl⟩ := readsR_shape hr.rows
  obtain ⟨i0, hi, iz0, iz1, iz2⟩ := info_parts infoS
  have hlen := hs.len
  have HC : Hid (-9223372036854775808 ≤ c ∧ c ≤ 9223372036854775807) := hc
  have HBD : Hid (p.size ≤ 9223372036854775806) := hp
  clear hc hp
  go_enter Tryz.func5, Tryz.ntmps5
  go_wp2_with fail
  obtain ⟨w0, hW⟩ : ∃ W, (w.alloc (.cells #[.int .i64 n, .slice ao l.length cap] 31)).alloc (.cells #[] 9) = W := ⟨_, rfl⟩
  have hB0 : Below w.heap.size w w0 := by rw [← hW]; exact ((Below.refl _ w).alloc (Nat.le_refl _) _).alloc (by simp) _
  have q0 : w0.heap[w.heap.size]? = some (.cells #[.int .i64 n, .slice ao l.length cap] 31 (0, 0)) := by rw [← hW, Below.heap_alloc _ _ _ (by simp)]; exact heap_alloc_new w _
  have o0 : Owns w0 (w.heap.size + 1) (.slice (some ⟨w.heap.size + 1, 0, none⟩) 0 0) [] := by
    rw [← hW]
    have := World.ownsRow_lit (w.alloc (.cells #[.int .i64 n, .slice ao l.length cap] 31)) (e := 9) (size := 1) (base := w.heap.size + 1) #[] 0 (by simp) (by simp) rfl
    rw [World.size_alloc] at this
    exact this
  rw [hW]
  have hz0 : w.heap.size < w0.heap.size := by rw [← hW]; simp; omega
  clear hW
  refine (specBaseOk_any n _ l _ (esReads_kept hr hB0) hs hn).mono ?_
  rintro x w1 ⟨rfl, hb1⟩
  have hB1 := hB0.trans (hb1.mono hB0.size)
  have Q1 : Hid _ := (hb1.block w.heap.size hz0).trans q0
  have O1 : Hid _ := owns_kept o0 hb1
  have b1 : w1.cell? ⟨w.heap.size, 1, none⟩ = some (.slice ao l.length cap) := by rw [cell_of_row _ _ _ _ _ _ Q1.out]; rfl
  clear hb1 hB0 q0 o0 hz0
  cases hok : bsOkB n (l.map Row.e) with
  | false =>
    have HK : Hid _ := scan_bad (h := h) (p := p) (show goodN n (l.map Row.e) p c = false by unfold goodN; rw [hok]; rfl)
    clear hok b1
    go_wp2_with fail
    go_ret2
    exact ⟨_, by rw [HK.out.2]; rfl, by rw [HK.out.1]; exact owns_base O1.out (by omega), hB1⟩
  | true =>
    by_cases h1c : 1 ≤ c
    · by_cases h12 : (p.size : Int) ≤ 12
      · have HG : Hid (goodN n (l.map Row.e) p c = true) := goodN_of hok h12 h1c
        have hc2 := HC.out.2
        clear hok
        go_wp2_with fail
        clear b1
        go_loopw [10, 11, 12, 13] (fun u q s i wr => ∃ j : Nat, j ≤ l.length ∧ i = .int .i64 (j : Int) ∧ (∃ m : Nat, (m : Int) ≤ c ∧ Hid ((abv h ((l.take j).map Row.e)).length = m) ∧ q = .int .i64 (m : Int)) ∧ s = .string (lastK (abv h ((l.take j).map Row.e))) ∧ Hid (Owns wr (w.heap.size + 1) u (kk p (abv h ((l.take j).map Row.e)))) ∧ Hid (wr.heap[w.heap.size]? = some (.cells #[.int .i64 n, .slice ao l.length cap] 31 (0, 0))) ∧ Below w.heap.size w wr) (fun _ _ _ i _ => l.length - (intOf i).toNat)
        case atStart => exact ⟨0, Nat.zero_le _, rfl, ⟨0, by omega, by show _ = _; rfl, rfl⟩, rfl, O1, Q1, hB1⟩
        case round =>
          obtain ⟨j, hj, rfl, ⟨m, hm, HM, rfl⟩, rfl, HO, HQ, hB⟩ := hrel
          clear hB1 O1 Q1
          have hzz : w.heap.size < wr.heap.size := (Array.getElem?_eq_some_iff.1 HQ.out).1
          have x1 : wr.cell? ⟨w.heap.size, 1, none⟩ = some (.slice ao l.length cap) := by rw [cell_of_row _ _ _ _ _ _ HQ.out]; rfl
          by_cases hlt : j < l.length
          · obtain ⟨b, off, rfl, hb, hnc, hcm, hc⟩ := es_some hr.rows (by omega)
            obtain ⟨c0, -⟩ := es_cells hc hB hb hlt
            have hk1 : (j : Int) < (l.length : Int) := by omega
            have hky := (hs.each _ (esAt_mem hlt)).key
            have HTS : Hid _ := take_snocE hlt
            have HCL : Hid _ := fun (W : World) (hB : Below w.heap.size w W) => es_cells hc hB hb hlt
            clear hc hnc hcm
            cases hbh : bhB h (esAt l j).e.key with
            | false =>
              have HAB : Hid (abv h ((l.take (j + 1)).map Row.e) = abv h ((l.take j).map Row.e)) := by show _ = _; rw [HTS.out]; exact abv_miss hbh
              have hlq := bh_leq hbh
              simp only [Bool.not_false] at hlq
              clear hbh
              go_wp2_with fail
              go_roundw
              case rel => exact ⟨j + 1, hlt, by go_num, ⟨m, hm, by rw [HAB.out]; exact HM, rfl⟩, by rw [HAB.out], by rw [HAB.out]; exact HO.out, HQ, hB⟩
              case measure => simp [intOf]; omega
            | true =>
              have HBH : Hid (bhB h (esAt l j).e.key = true) := hbh
              have hlq := bh_leq hbh
              simp only [Bool.not_true] at hlq
              clear hbh
              by_cases hmc : (m : Int) = c
              · obtain ⟨HK1, HK2⟩ := scan_full HG.out hlt HBH.out (by rw [HM.out]; exact hmc)
                have HK1 : Hid _ := HK1
                have HK2 : Hid _ := HK2
                have hz : ((m : Int) == c) = true := by simp; omega
                clear hmc
                go_wp2_with fail
                go_ret2
                exact ⟨_, by rw [HK2.out]; rfl, by rw [HK1.out]; exact owns_base HO.out (by omega), hB⟩
              · have hz : ((m : Int) == c) = false := by simp; omega
                have hm1 : (m : Int) + 1 ≤ c := by omega
                have HAB : Hid (abv h ((l.take (j + 1)).map Row.e) = abv h ((l.take j).map Row.e) ++ [(esAt l j).e]) := by show _ = _; rw [HTS.out]; exact abv_hit HBH.out
                have HLK : Hid (lastK (abv h ((l.take (j + 1)).map Row.e)) = (esAt l j).e.key) := by show _ = _; rw [HAB.out]; exact lastK_snoc _ _
                have HM1 : Hid ((abv h ((l.take (j + 1)).map Row.e)).length = m + 1) := by show _ = _; rw [HAB.out, List.length_append, HM.out]; rfl
                have hp2 : p.size ≤ 9223372036854775807 := by have := HBD.out; omega
                clear hmc
                go_wp2_with fail
                refine (specM_any _ p (esAt l j).e.key _ (Nat.le_refl _) hp2 (by omega)).mono ?_
                rintro e w3' ⟨rfl, m2, rfl⟩
                obtain ⟨w3, hw3⟩ : ∃ W, wr.drewN m2 = W := ⟨_, rfl⟩
                have hb3 : Below wr.heap.size wr w3 := by rw [← hw3]; exact below_drewN _ _
                rw [hw3]
                have Q3 : Hid _ := (hb3.block w.heap.size hzz).trans HQ.out
                have HB3 : Hid _ := hB.trans (hb3.mono hB.size)
                have HO3 : Hid _ := owns_kept HO.out hb3
                clear hw3 hb3 HO HQ hB c0 x1 hzz
                have hn := kk_len p (abv h ((l.take j).map Row.e))
                have hn2 := abv_len h ((l.take j).map Row.e)
                rw [List.length_map, List.length_take] at hn2
                generalize hA : mtch p.data.toList (esAt l j).e.key.data.toList = R
                cases R with
                | true =>
                  have HH : Hid _ := kk_hit (l := abv h ((l.take j).map Row.e)) hA
                  clear hA
                  go_wp2_with (at_builtin; refine wpList_append_own _ rfl (.tmp 59) (.tmp 61) 26 rfl (w.heap.size + 1) 9 i0 (.string ByteArray.empty) 1 16 Tryz.underlying26 hi iz0 iz1 iz2 rfl (by decide) _ _ _ rfl (World.ownsRow.alloc HO3.out _) ⟨w3.heap.size, 0, none⟩ 1 1 [.string (esAt l j).e.key] rfl rfl (cell_one_new _ _ _) (by simp [Value.oneCell']) (by unfold maxLen; omega) (by omega) (by simp; have := HB3.out.size; omega) ?_; intro v' w4 hown hgrow _)
                  have hO4 : Owns w4 (w.heap.size + 1) v' (kk p (abv h ((l.take j).map Row.e)) ++ [(esAt l j).e.key]) := by
                    unfold Owns
                    rw [List.length_append, List.map_append]
                    exact hown
                  have hB4 : Below w.heap.size w w4 := (HB3.out.alloc HB3.out.size _).grown hgrow (by simp; have := HB3.out.size; omega) (fun k hk => by have := (World.ownsRow.lt HO3.out k hk).1; omega)
                  have hz3 : w.heap.size < w3.heap.size := (Array.getElem?_eq_some_iff.1 Q3.out).1
                  have Q4 : Hid (w4.heap[w.heap.size]? = some (.cells #[.int .i64 n, .slice (some ⟨b, off, none⟩) l.length cap] 31 (0, 0))) := (hgrow.block w.heap.size (by simp; omega) (fun e => by have := (World.ownsRow.lt HO3.out w.heap.size e.symm).1; omega)).trans ((Below.heap_alloc _ _ _ hz3).trans Q3.out)
                  go_roundw
                  case rel => exact ⟨j + 1, hlt, by go_num, ⟨m + 1, by omega, HM1, by go_num⟩, by rw [HLK.out], by rw [HAB.out, HH.out]; exact hO4, Q4, hB4⟩
                  case measure => simp [intOf]; omega
                | false =>
                  have HH : Hid _ := kk_miss (l := abv h ((l.take j).map Row.e)) hA
                  clear hA
                  go_wp2_with fail
                  go_roundw
                  case rel => exact ⟨j + 1, hlt, by go_num, ⟨m + 1, by omega, HM1, by go_num⟩, by rw [HLK.out], by rw [HAB.out, HH.out]; exact HO3.out, Q3, HB3.out⟩
                  case measure => simp [intOf]; omega
          · obtain rfl : j = l.length := by omega
            have HK : Hid _ := scan_end (h := h) HG.out (by have := HM.out; rw [List.take_length] at this; rw [this]; exact hm)
            go_wp2_with fail
            go_ret2
            exact ⟨_, by rw [HK.out.2]; rfl, by rw [HK.out.1]; have := HO.out; rw [List.take_length] at this; exact owns_base this (by omega), hB⟩
      · have HK : Hid _ := scan_bad (n := n) (l := l.map Row.e) (h := h) (p := p) (show goodN n (l.map Row.e) p c = false by unfold goodN; rw [decide_eq_false h12, Bool.false_and, Bool.and_false])
        clear hok b1
        go_wp2_with fail
        go_ret2
        exact ⟨_, by rw [HK.out.2]; rfl, by rw [HK.out.1]; exact owns_base O1.out (by omega), hB1⟩
    · have HK : Hid _ := scan_bad (n := n) (l := l.map Row.e) (h := h) (p := p) (show goodN n (l.map Row.e) p c = false by unfold goodN; rw [decide_eq_false h1c, Bool.and_false, Bool.and_false])
      clear hok b1
      go_wp2_with fail
      go_ret2
      exact ⟨_, by rw [HK.out.2]; rfl, by rw [HK.out.1]; exact owns_base O1.out (by omega), hB1⟩
end Go.Proofs.YtaiboncomibikaaGreatDoor
