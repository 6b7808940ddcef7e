/- The program's scoreTexts and numberOfText. -/
import Derived.Test.YtndegickekjkjaaSumA
import Derived.Test.YtndegickekjkjaaScH
import Derived.Test.YtndegickekjkjaaSetAC
import Derived.Maps.AppendAt
import Derived.Laws.AppendOwn
namespace Go.Proofs.Ytndegickekjkjaa
open Go.RowKit
set_option linter.unusedVariables false

theorem take_snocS {l : List (ByteArray × Int)} {j : Nat} (h : j < l.length) : (l.take (j + 1)).map (·.1) = (l.take j).map (·.1) ++ [(scAt l j).1] := by
  rw [List.take_succ_eq_append_getElem h, List.map_append, scAt_get h]; rfl
set_option maxHeartbeats 4000000 in
set_option maxRecDepth 100000 in
theorem scoreTexts_any (v : Value) (l : List (ByteArray × Int)) (w : World) (hr : ScReads w v l) (hlen : l.length ≤ 1048576) :
    Calls Try.prog 28 #[v] w fun e w' => ∃ x c, e = .returned x ∧ Reads w' x c ∧ Asc c ∧ (∀ s, s ∈ c ↔ s ∈ l.map (·.1)) ∧ c.length ≤ l.length ∧ Below w.heap.size w w' := by
  obtain ⟨i0, hi, iz0, iz1, iz2⟩ := info_parts infoS
  obtain ⟨ao, cap, rfl⟩ := readsR_shape hr
  go_enter Try.func28, Try.ntmps28
  go_wp2_with fail
  go_loopw [3, 8] (fun u i wr => ∃ j : Nat, j ≤ l.length ∧ i = .int .i64 (j : Int) ∧ Hid (Owns wr w.heap.size u ((l.take j).map (·.1))) ∧ Below w.heap.size w wr) (fun _ i _ => l.length - (intOf i).toNat)
  case atStart => exact ⟨0, Nat.zero_le _, rfl, World.ownsRow_nil _ _ _ _, Below.refl _ _⟩
  case round =>
    obtain ⟨j, hj, rfl, HO, hB⟩ := hrel
    by_cases hlt : j < l.length
    · obtain ⟨b, off, rfl, hb, hnc, hcm, hc⟩ := sc_some hr (by omega)
      obtain ⟨c0, c1⟩ := sc_cell_kept (sc_cells hc hlt) hB hb
      have hk1 : (j : Int) < (l.length : Int) := by omega
      have HTS : Hid _ := take_snocS hlt
      clear hc hnc hcm hr
      obtain ⟨W1, hW1⟩ : ∃ W, wr.alloc (.cells #[.string (scAt l j).1, .int .i64 (scAt l j).2] 36) = W := ⟨_, rfl⟩
      have k0 : W1.cell? ⟨wr.heap.size, 0, none⟩ = some (.string (scAt l j).1) := by rw [← hW1, cell_of_row _ _ _ _ _ _ (heap_alloc_new wr _)]; rfl
      have hz1 : wr.heap.size + 1 ≤ W1.heap.size := by rw [← hW1]; simp
      have hB1 : Below w.heap.size w W1 := by rw [← hW1]; exact hB.alloc hB.size _
      have HO1 : Owns W1 w.heap.size u3 ((l.take j).map (·.1)) := by rw [← hW1]; exact World.ownsRow.alloc HO.out _
      clear HO hB
      go_wp2_with (at_builtin; refine wpList_append_own _ rfl (.tmp 12) (.tmp 15) 49 rfl w.heap.size 9 i0 (.string ByteArray.empty) 1 16 Try.underlying49 hi iz0 iz1 iz2 rfl (by decide) _ _ _ rfl (World.ownsRow.alloc HO1 _) ⟨W1.heap.size, 0, none⟩ 1 1 [.string (scAt l j).1] rfl rfl (cell_one_new _ _ _) (by simp [Value.oneCell']) (by unfold maxLen; simp; omega) (by simp; omega) (by simp; have := hB1.size; omega) ?_; intro v' w4 hown hgrow _)
      have hO4 : Owns w4 w.heap.size v' ((l.take j).map (·.1) ++ [(scAt l j).1]) := by
        unfold Owns
        rw [List.length_append, List.map_append]
        exact hown
      have hB4 : Below w.heap.size w w4 := (hB1.alloc hB1.size _).grown hgrow (by simp; have := hB1.size; omega) (fun k hk => (World.ownsRow.lt HO1 k hk).1)
      go_roundw
      case rel => exact ⟨j + 1, hlt, by go_num, by rw [HTS.out]; exact hO4, hB4⟩
      case measure => simp [intOf]; omega
    · obtain rfl : j = l.length := by omega
      have HO1 : Owns wr w.heap.size u3 (l.map (·.1)) := by have := HO.out; rw [List.take_length] at this; exact this
      obtain ⟨au, cu, hu⟩ := reads_shape (owns_reads HO1)
      rw [List.length_map] at hu
      subst hu
      go_wp2_with fail
      refine (ascending_any _ (l.map (·.1)) _ (owns_reads HO1) (by simpa using hlen)).mono ?_
      rintro e w2 ⟨x, c, rfl, hrx, hasc, hmem, hcl, hb2⟩
      have hB2 := hB.trans (hb2.mono hB.size)
      have hcl' : c.length ≤ l.length := by simpa using hcl
      obtain ⟨ax, cx, rfl⟩ := reads_shape hrx
      clear hb2 hB HO HO1
      go_wp2_with fail
      go_ret
      exact ⟨_, c, rfl, hrx, hasc, hmem, hcl', hB2⟩

set_option maxHeartbeats 4000000 in
theorem numberOfText_any (v : Value) (l : List (ByteArray × Int)) (s : ByteArray) (w : World) (hr : ScReads w v l) (hlen : l.length ≤ 1048576) (hok : scOkB l = true) :
    Calls Try.prog 29 #[v, .string s] w fun e w' => e = .returned (.int .i64 (scNum l s)) ∧ Below w.heap.size w w' := by
  have hF : scFindI l s = scPlc l s := by unfold scFindI; rw [hok]; rfl
  clear hok
  obtain ⟨ao, cap, rfl⟩ := readsR_shape hr
  rcases Int.lt_or_le (scPlc l s) 0 with h0 | h0
  · have HN : Hid (scNum l s = 0) := by show _ = _; unfold scNum; rw [if_neg (by omega)]
    go_enter Try.func29, Try.ntmps29
    go_wp2_with fail
    refine (implScoresRank_any _ l s _ hr hlen).mono ?_
    rintro e w1 ⟨rfl, hb1⟩
    rw [hF]
    clear hF hr
    generalize scPlc l s = p at h0 ⊢
    go_wp2_with fail
    go_ret
    exact ⟨ret_int' HN.out.symm, hb1⟩
  · obtain ⟨h1, h2⟩ := scPlc_idx h0
    have HN : Hid (scNum l s = (scAt l (scIdx l s)).2) := by show _ = _; unfold scNum; rw [if_pos h0]
    rw [h1] at hF
    clear h0 h1
    generalize scIdx l s = k at hF h2 HN
    obtain ⟨b, off, rfl, hb, hnc, hcm, hc⟩ := sc_some hr (by omega)
    go_enter Try.func29, Try.ntmps29
    go_wp2_with fail
    refine (implScoresRank_any _ l s _ hr hlen).mono ?_
    rintro e w1 ⟨rfl, hb1⟩
    obtain ⟨c0, c1⟩ := sc_cell_kept (sc_cells hc h2) hb1 hb
    rw [hF]
    clear hF hr hc
    have hk1 : (k : Int) < (l.length : Int) := by omega
    go_wp2_with fail
    go_ret
    exact ⟨ret_int' HN.out.symm, hb1⟩
end Go.Proofs.Ytndegickekjkjaa
