/- The model's BaseKeys. -/
import Derived.Test.YtcaobbobofgfoaaGreatDoorBkA
import Derived.Test.YtcaobbobofgfoaaGreatDoorEnK
namespace Go.Proofs.YtcaobbobofgfoaaGreatDoor
open Go.RowKit
set_option linter.unusedVariables false

set_option maxHeartbeats 8000000 in
set_option maxRecDepth 100000 in
theorem specKeys_any (n : Int) (v : Value) (l : List Row) (p : ByteArray) (w : World) (hr : EsReads w v l) (hs : EsSmall l) (hn : -9223372036854775808 ≤ n ∧ n ≤ 9223372036854775807) (hp : p.size ≤ 9223372036854775806) :
    Calls Tryz.prog 5 #[bsV n v, .string p] w fun e w' => ∃ u, e = .returned u ∧ Owns w' w.heap.size u (keysE n (l.map Row.e) p) ∧ Below w.heap.size w w' := by
  obtain ⟨ao, cap, rfl⟩ := readsR_shape hr.rows
  obtain ⟨i0, hi, iz0, iz1, iz2⟩ := info_parts infoS
  have hlen := hs.len
  have HBD : Hid (p.size ≤ 9223372036854775806) := hp
  clear hp
  go_enter Tryz.func5, Tryz.ntmps5
  go_wp2_with fail
  obtain ⟨w0, hW⟩ : ∃ W, (w.alloc (.cells #[.int .i64 n, .slice ao l.length cap] 30)).alloc (.cells #[] 9) = W := ⟨_, rfl⟩
  have hB0 : Below w.heap.size w w0 := by rw [← hW]; exact ((Below.refl _ w).alloc (Nat.le_refl _) _).alloc (by simp) _
  have q0 : w0.heap[w.heap.size]? = some (.cells #[.int .i64 n, .slice ao l.length cap] 30 (0, 0)) := by rw [← hW, Below.heap_alloc _ _ _ (by simp)]; exact heap_alloc_new w _
  have o0 : Owns w0 (w.heap.size + 1) (.slice (some ⟨w.heap.size + 1, 0, none⟩) 0 0) [] := by
    rw [← hW]
    have := World.ownsRow_lit (w.alloc (.cells #[.int .i64 n, .slice ao l.length cap] 30)) (e := 9) (size := 1) (base := w.heap.size + 1) #[] 0 (by simp) (by simp) rfl
    rw [World.size_alloc] at this
    exact this
  rw [hW]
  have Q0 : Hid _ := q0
  have O0 : Hid _ := o0
  have hz0 : w.heap.size < w0.heap.size := by rw [← hW]; simp; omega
  clear hW q0 o0
  go_loopw [5, 6] (fun u i wr => ∃ j : Nat, j ≤ l.length ∧ i = .int .i64 (j : Int) ∧ Hid (goodK n (l.map Row.e) p = true ∨ j = 0) ∧ Hid (Owns wr (w.heap.size + 1) u (kk p ((l.take j).map Row.e))) ∧ Hid (wr.heap[w.heap.size]? = some (.cells #[.int .i64 n, .slice ao l.length cap] 30 (0, 0))) ∧ Below w.heap.size w wr) (fun _ i _ => l.length - (intOf i).toNat)
  case atStart => exact ⟨0, Nat.zero_le _, rfl, .inr rfl, O0, Q0, hB0⟩
  case round =>
    obtain ⟨j, hj, rfl, HG, HO, HQ, hB⟩ := hrel
    clear hB0 hz0 Q0 O0
    have hzz : w.heap.size < wr.heap.size := (Array.getElem?_eq_some_iff.1 HQ.out).1
    have x0 : wr.cell? ⟨w.heap.size, 0, none⟩ = some (.int .i64 n) := by rw [cell_of_row _ _ _ _ _ _ HQ.out]; rfl
    have x1 : wr.cell? ⟨w.heap.size, 1, none⟩ = some (.slice ao l.length cap) := by rw [cell_of_row _ _ _ _ _ _ HQ.out]; rfl
    by_cases hlt : j < l.length
    · obtain ⟨b, off, rfl, hb, hnc, hcm, hc⟩ := es_some hr.rows (by omega)
      have hk1 : (j : Int) < (l.length : Int) := by omega
      have hky := (hs.each _ (esAt_mem hlt)).key
      have HTS : Hid _ := take_snocE hlt
      have HC : Hid _ := fun (W : World) (hB : Below w.heap.size w W) => es_cells hc hB hb hlt
      clear hc hnc hcm
      go_wp2_with fail
      refine (specBaseOk_any n _ l _ (esReads_kept hr hB) hs hn).mono ?_
      rintro x w2 ⟨rfl, hb2⟩
      have hB2 := hB.trans (hb2.mono hB.size)
      have q2 := (hb2.block w.heap.size hzz).trans HQ.out
      have y0 : w2.cell? ⟨w.heap.size, 0, none⟩ = some (.int .i64 n) := by rw [cell_of_row _ _ _ _ _ _ q2]; rfl
      have y1 : w2.cell? ⟨w.heap.size, 1, none⟩ = some (.slice (some ⟨b, off, none⟩) l.length cap) := by rw [cell_of_row _ _ _ _ _ _ q2]; rfl
      have Q2 : Hid _ := q2
      have HO2 : Hid _ := owns_kept HO.out hb2
      obtain ⟨c0, -⟩ := HC.out w2 hB2
      have hz2 := hb2.size
      clear hb2 hB x0 x1 q2 HO HQ
      cases hok : bsOkB n (l.map Row.e) with
      | false =>
        have hj0 : j = 0 := HG.out.resolve_left (by unfold goodK; rw [hok]; simp)
        have HK : Hid (keysE n (l.map Row.e) p = kk p ((l.take j).map Row.e)) := by show _ = _; unfold keysE goodK; rw [hok, hj0]; rfl
        clear hj0 hok
        go_wp2_with fail
        go_ret
        exact ⟨_, rfl, by rw [HK.out]; exact owns_base HO2.out (by omega), hB2⟩
      | true =>
        by_cases h12 : (p.size : Int) ≤ 12
        · have HGD : Hid (goodK n (l.map Row.e) p = true) := by show _ = _; unfold goodK; rw [hok, decide_eq_true h12]; rfl
          have hp2 : p.size ≤ 9223372036854775807 := by have := HBD.out; omega
          clear hok HG
          go_wp2_with fail
          refine (specM_any _ p (esAt l j).e.key _ (Nat.le_refl _) hp2 (by omega)).mono ?_
          rintro e w3' ⟨rfl, m, rfl⟩
          obtain ⟨w3, hw3⟩ : ∃ W, w2.drewN m = W := ⟨_, rfl⟩
          have hb3 : Below w2.heap.size w2 w3 := by rw [← hw3]; exact below_drewN _ _
          rw [hw3]
          have q3 := (hb3.block w.heap.size (by omega)).trans Q2.out
          have hB3 := hB2.trans (hb3.mono hB2.size)
          have z1 : w3.cell? ⟨w.heap.size, 1, none⟩ = some (.slice (some ⟨b, off, none⟩) l.length cap) := by rw [cell_of_row _ _ _ _ _ _ q3]; rfl
          have Q3 : Hid _ := q3
          have hz3 : w.heap.size < w3.heap.size := (Array.getElem?_eq_some_iff.1 q3).1
          obtain ⟨d0, -⟩ := HC.out w3 hB3
          have HO3 : Hid _ := owns_kept HO2.out hb3
          have HB3 : Hid (Below w.heap.size w w3) := hB3
          clear hw3 hb3 hB2 hB3 q3 Q2 HO2 c0 y0 y1
          generalize hA : mtch p.data.toList (esAt l j).e.key.data.toList = R
          cases R with
          | true =>
            have HH : Hid _ := kk_hit (l := (l.take j).map Row.e) hA
            clear hA
            have hn2 := kk_len p ((l.take j).map Row.e)
            rw [List.length_map, List.length_take] at hn2
            go_wp2_with (at_builtin; refine wpList_append_own _ rfl (.tmp 32) (.tmp 39) 26 rfl (w.heap.size + 1) 9 i0 (.string ByteArray.empty) 1 16 Tryz.underlying26 hi iz0 iz1 iz2 rfl (by decide) _ _ _ rfl (World.ownsRow.alloc HO3.out _) ⟨w3.heap.size, 0, none⟩ 1 1 [.string (esAt l j).e.key] rfl rfl (cell_one_new _ _ _) (by simp [Value.oneCell']) (by unfold maxLen; omega) (by omega) (by simp; have := HB3.out.size; omega) ?_; intro v' w4 hown hgrow _)
            have hO4 : Owns w4 (w.heap.size + 1) v' (kk p ((l.take j).map Row.e) ++ [(esAt l j).e.key]) := by
              unfold Owns
              rw [List.length_append, List.map_append]
              exact hown
            have hB4 : Below w.heap.size w w4 := (HB3.out.alloc HB3.out.size _).grown hgrow (by simp; have := HB3.out.size; omega) (fun k hk => by have := (World.ownsRow.lt HO3.out k hk).1; omega)
            have Q4 : Hid (w4.heap[w.heap.size]? = some (.cells #[.int .i64 n, .slice (some ⟨b, off, none⟩) l.length cap] 30 (0, 0))) := (hgrow.block w.heap.size (by have := HB3.out.size; simp; omega) (fun e => by have := (World.ownsRow.lt HO3.out w.heap.size e.symm).1; omega)).trans ((Below.heap_alloc _ _ _ (by omega)).trans Q3.out)
            go_roundw
            case rel => exact ⟨j + 1, hlt, by go_num, .inl HGD.out, by rw [HTS.out, HH.out]; exact hO4, Q4, hB4⟩
            case measure => simp [intOf]; omega
          | false =>
            have HH : Hid _ := kk_miss (l := (l.take j).map Row.e) hA
            clear hA
            go_wp2_with fail
            go_roundw
            case rel => exact ⟨j + 1, hlt, by go_num, .inl HGD.out, by rw [HTS.out, HH.out]; exact HO3.out, Q3, HB3.out⟩
            case measure => simp [intOf]; omega
        · have hg0 : goodK n (l.map Row.e) p = false := by unfold goodK; rw [decide_eq_false h12, Bool.and_false]
          have hj0 : j = 0 := HG.out.resolve_left (by rw [hg0]; simp)
          have HK : Hid (keysE n (l.map Row.e) p = kk p ((l.take j).map Row.e)) := by show _ = _; unfold keysE; rw [hg0, hj0]; rfl
          clear hj0 hok hg0
          go_wp2_with fail
          go_ret
          exact ⟨_, rfl, by rw [HK.out]; exact owns_base HO2.out (by omega), hB2⟩
    · obtain rfl : j = l.length := by omega
      have HK : Hid (keysE n (l.map Row.e) p = kk p ((l.take l.length).map Row.e)) := by
        show _ = _
        rcases HG.out with h | h
        · unfold keysE; rw [if_pos h, List.take_length]
        · have : l = [] := List.length_eq_zero_iff.1 h
          subst this
          unfold keysE
          split <;> rfl
      go_wp2_with fail
      go_ret
      exact ⟨_, rfl, by rw [HK.out]; exact owns_base HO.out (by omega), hB⟩
end Go.Proofs.YtcaobbobofgfoaaGreatDoor
