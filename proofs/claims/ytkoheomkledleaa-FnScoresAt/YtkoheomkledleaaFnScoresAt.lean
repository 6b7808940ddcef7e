/- Proved: of drawn scores and two places ScoresAt answers as its model; of scores that are ok they are as ListRange of their texts. No condition. -/
import Derived.Test.YtkoheomkledleaaQxS
import Derived.Test.YtkoheomkledleaaScO
import Derived.Test.YtkoheomkledleaaRangeX
import Derived.ProofKit
import Derived.OpenShut
import Derived.ShutString
import Derived.ChangeOld
import Derived.Below
import Derived.Deep.RegionWith
namespace Go.Proofs.Ytkoheomkledleaa.fnScoresAt
open Go.ChangeShapes Go.WideShapes Go.ChangeAt Go.RowKit
open Go.ChangeMaps (open_string shut_string)
set_option linter.unusedVariables false

theorem own : ownKnob Try.prog.godebug = none := by kernel_rfl
theorem laidOut : laidOutB Try.prog = true := by kernel_rfl
theorem isLen (w : World) (v : Value) (zs : List Int) (h : IsBytes w v zs) : ∃ ao cap, v = .slice ao zs.length cap ∧ zs.length ≤ 9223372036854775807 := by
  obtain ⟨ao, cap, h1, h2, h3, _⟩ := h
  unfold maxLen at h3; exact ⟨ao, cap, h1, by omega⟩
theorem step {B : Nat} {a w w' : World} (h : Below B a w) (hB : B ≤ a.heap.size) (hb : Below w.heap.size w w') : Below B a w' := h.trans (hb.mono (Nat.le_trans hB h.size))
def texts (l : List (ByteArray × Int)) : List ByteArray := l.map Prod.fst
theorem texts_step {l : List (ByteArray × Int)} {k : Nat} (h : k < l.length) : texts (l.take (k + 1)) = texts (l.take k) ++ [(scAt l k).1] := by
  rw [List.take_succ_eq_append_getElem h, ← scAt_get h]; unfold texts; simp
theorem texts_len (l : List (ByteArray × Int)) : (texts l).length = l.length := by unfold texts; simp
theorem texts_at {l : List (ByteArray × Int)} {k : Nat} (h : k < l.length) : at_ (texts l) k = (scAt l k).1 := by
  rw [at_lt (by rw [texts_len]; exact h), scAt_get h]; unfold texts; simp
theorem texts_ok {l : List (ByteArray × Int)} (h : scOkB l = true) : okB (texts l) = true := by
  have ha := (scOk_all h).1
  unfold okB short
  rw [Bool.and_eq_true, List.all_eq_true]
  refine ⟨by rw [texts_len]; simpa using scOk_len h, fun s hs => ?_⟩
  unfold texts at hs
  obtain ⟨x, hx, rfl⟩ := List.mem_map.1 hs
  have := ha x hx
  unfold scFitsB at this
  simp only [Bool.and_eq_true, decide_eq_true_eq] at this
  simpa using this.1
theorem range_texts {l : List (ByteArray × Int)} (a b : Int) (h : scOkB l = true) : rngR (texts l) a b = texts (scAtR l a b) := by
  unfold rngR scAtR rngB scAtB
  rw [texts_ok h, h, Bool.true_and, Bool.true_and]
  split
  · unfold rng scAtP; rw [texts_len]; unfold texts; rw [List.map_drop, List.map_take]
  · rfl
theorem atR_len (l : List (ByteArray × Int)) (a b : Int) (h : l.length ≤ 17) : (scAtR l a b).length ≤ 17 := by
  unfold scAtR; split
  · unfold scAtP; simp; omega
  · simp
theorem cell_new (w : World) (s : ByteArray) (t : TypeId) : ∀ j u, [Value.string s][j]? = some u → (w.alloc (.cells #[.string s] t)).cell? ((⟨w.heap.size, 0, none⟩ : Addr).add j) = some u := fun j u hu => news_new w #[.string s] t j u hu
theorem ne_same (s : ByteArray) : (!s.toList == s.toList) = false := by simp
theorem empty_names (w : World) : Owns (w.alloc (.cells #[] 9)) w.heap.size (.slice (some ⟨w.heap.size, 0, none⟩) 0 0) [] := World.ownsRow_lit w #[] 0 (Nat.le_refl _) (by simp) rfl
set_option maxHeartbeats 8000000 in
theorem walk (v0 : Value) (zs : List Int) (w : World) (h : IsBytes w v0 zs) :
    Calls Try.prog 7 #[v0] w fun e w' => e = .returned (.bool true) ∧ Below w.heap.size w w' := by
  obtain ⟨ao, cap, rfl, hlm⟩ := isLen w v0 zs h
  rcases Int.lt_or_le (1048576 : Int) (zs.length : Int) with h0 | h0
  · go_enter Try.func7, Try.ntmps7
    go_wp2_with fail
    go_ret
    exact ⟨rfl, Below.refl _ _⟩
  go_enter Try.func7, Try.ntmps7
  go_wp2_with fail
  refine (drawAt_any _ zs _ h).mono ?_
  rintro e w1 ⟨x, O, a, b, rfl, ho1, hO, ha0, ha1, hb0, hb1, hB1⟩
  have hr1 := ownsR_reads scC_len ho1
  clear h ho1
  have hRl := atR_len O a b hO
  go_wp2_with fail
  refine (implScoresAt_any _ O a b _ hr1 (by omega)).mono ?_
  rintro e w2 ⟨y, rfl, ho2, hb2⟩
  have hr2 := readsR_kept hr1 hb2
  have hy2 := ownsR_reads scC_len ho2
  have hB2 := step hB1 (Nat.le_refl _) hb2
  clear hr1 hb2 hB1 ho2
  go_wp2_with fail
  refine (specScoresAt_any _ O a b _ hr2 (by omega)).mono ?_
  rintro e w3 ⟨z, rfl, ho3, hb3⟩
  have hr3 := readsR_kept hr2 hb3
  have hy3 := readsR_kept hy2 hb3
  have hz3 := ownsR_reads scC_len ho3
  have hB3 := step hB2 (Nat.le_refl _) hb3
  clear hr2 hb3 hB2 ho3 hy2
  go_wp2_with fail
  refine (qxS_true y z _ _ hy3 hz3 (by omega)).mono ?_
  rintro e w4 ⟨rfl, hb4⟩
  have hr4 := readsR_kept hr3 hb4
  have hy4 := readsR_kept hy3 hb4
  have hB4 := step hB3 (Nat.le_refl _) hb4
  clear hr3 hb4 hB3 hy3 hz3
  go_wp2_with fail
  refine (specScoresOk_any _ O _ hr4 (by omega)).mono ?_
  rintro e w5 ⟨rfl, hb5⟩
  have hr5 := readsR_kept hr4 hb5
  have hy5 := readsR_kept hy4 hb5
  have hB5 := step hB4 (Nat.le_refl _) hb5
  clear hr4 hb5 hB4 hy4
  cases hok : scOkB O with
  | false =>
    clear hok
    go_wp2_with fail
    refine (specScoresAt_any _ O a b _ hr5 (by omega)).mono ?_
    rintro e w6 ⟨z6, rfl, ho6, hb6⟩
    have hy6 := readsR_kept hy5 hb6
    have hz6 := ownsR_reads scC_len ho6
    have hB6 := step hB5 (Nat.le_refl _) hb6
    go_wp2_with fail
    refine (qxS_true y z6 _ _ hy6 hz6 (by omega)).mono ?_
    rintro e w7 ⟨rfl, hb7⟩
    have hB7 := step hB6 (Nat.le_refl _) hb7
    go_wp2_with fail
    go_ret
    exact ⟨rfl, hB7⟩
  | true =>
    have HRT : Hid (rngR (texts O) a b = texts (scAtR O a b)) := range_texts a b hok
    clear hok
    obtain ⟨ax, cx, rfl⟩ := readsR_shape hr5
    obtain ⟨ay, cy, rfl⟩ := readsR_shape hy5
    obtain ⟨R, hR⟩ : ∃ R, scAtR O a b = R := ⟨_, rfl⟩
    rw [hR] at HRT hRl hy5 ⊢
    clear hR
    have HY : Hid (ScReads w5 (.slice ay R.length cy) R) := hy5
    have HX : Hid (ScReads w5 (.slice ax O.length cx) O) := hr5
    have HB5 : Hid (Below w.heap.size w w5) := hB5
    clear hy5 hB5
    have hon := empty_names w5
    have hBn : Below w5.heap.size w5 (w5.alloc (.cells #[] 9)) := (Below.refl _ w5).alloc (Nat.le_refl _) _
    go_wp2_with fail
    go_loopw [7, 8] (fun u i wr => ∃ k : Nat, k ≤ O.length ∧ i = .int .i64 (k : Int) ∧ Owns wr w5.heap.size u (texts (O.take k)) ∧ Below w5.heap.size w5 wr) (fun _ i _ => O.length - (intOf i).toNat)
    case atStart => exact ⟨0, Nat.zero_le _, rfl, hon, hBn⟩
    case round =>
      obtain ⟨k, hk, rfl, ho, hB⟩ := hrel
      clear hon hBn
      by_cases hlt : k < O.length
      · obtain ⟨g, off, rfl, hg, _, _, hc⟩ := sc_some hr5 (by omega)
        have hcl := sc_cell_kept (sc_cells hc hlt) hB hg
        have hc0 := hcl.1
        clear hcl hc
        have HT : Hid (texts (O.take (k + 1)) = texts (O.take k) ++ [(scAt O k).1]) := texts_step hlt
        have hTl : (texts (O.take k)).length = k := by rw [texts_len, List.length_take]; omega
        have hBs := hB.size
        obtain ⟨i0, hi, hz0, hz1, hz2⟩ := info_parts infoS
        unfold Owns at ho
        go_wp2_with (at_builtin; refine wpList_append_own _ rfl (.tmp 49) (.tmp 55) 41 rfl w5.heap.size 9 i0 (.string ByteArray.empty) 1 16 Try.underlying41 hi hz0 hz1 hz2 rfl (by decide) _ _ _ rfl (ho.alloc _) ⟨wr.heap.size, 0, none⟩ 1 1 [.string (scAt O k).1] rfl rfl (cell_new _ _ _) (one_str _) (by unfold maxLen; omega) (by omega) (by simp; omega) ?_)
        intro x2 w6 hown6 hgrow6 _
        have ho6 : Owns w6 w5.heap.size x2 (texts (O.take (k + 1))) := by rw [HT.out]; unfold Owns; rw [List.length_append, List.map_append, hTl]; exact hown6
        have hB6 : Below w5.heap.size w5 w6 := (hB.alloc hBs _).grown hgrow6 (by simp; omega) (fun i hi => (ho.lt i hi).1)
        clear hown6 hgrow6 ho hB hi hz0 hz1 hz2
        go_wp2_with fail
        go_roundw
        case rel => exact ⟨k + 1, hlt, by go_num, ho6, hB6⟩
        case measure => simp [intOf]; omega
      · have e : O.take k = O := List.take_of_length_le (by omega)
        rw [e] at ho
        clear e
        have hBs := hB.size
        go_wp2_with fail
        refine (implRange_any _ (texts O) a b _ (owns_reads ho) (by rw [texts_len]; omega)).mono ?_
        rintro e w6 ⟨u, rfl, ho6, hb6⟩
        rw [HRT.out] at ho6
        have hB6 := hB.trans (hb6.mono hBs)
        have hu6 := owns_reads ho6
        have hy6 := readsR_kept HY.out hB6
        obtain ⟨au, cu, hue⟩ := reads_shape hu6
        rw [texts_len] at hue
        subst hue
        have hB7 := step HB5.out (Nat.le_refl _) hB6
        clear hB hb6 ho6 ho hB6 HX hr5
        have hll : ((R.length : Int) != (R.length : Int)) = false := by simp
        go_wp2_with fail
        go_loopw [10] (fun i wr => ∃ j : Nat, j ≤ R.length ∧ i = .int .i64 (j : Int) ∧ Below w6.heap.size w6 wr) (fun i _ => R.length - (intOf i).toNat)
        case atStart => exact ⟨0, Nat.zero_le _, rfl, Below.refl _ _⟩
        case round =>
          obtain ⟨j, hj, rfl, hBj⟩ := hrel
          by_cases hlt2 : j < R.length
          · obtain ⟨g, off, rfl, hg, _, _, hc⟩ := sc_some hy6 (by omega)
            have hcl := sc_cell_kept (sc_cells hc hlt2) hBj hg
            have hc0 := hcl.1
            rcases hu6 with ⟨hnil, _⟩ | ⟨_, g2, off2, cap2, hv, hg2, _, _, hcu⟩
            · have := congrArg List.length hnil; rw [texts_len, List.length_nil] at this; omega
            · rw [texts_len] at hv hcu
              cases hv
              have hd0 := (hBj.cell (p := ⟨g2, off2 + j, none⟩) hg2).trans (hcu j hlt2)
              rw [texts_at hlt2] at hd0
              have hns := ne_same (scAt R j).1
              have hli : (j : Int) < (R.length : Int) := by omega
              clear hcl hc hcu
              go_wp2_with fail
              go_quiet (fail)
              go_wp2_with fail
              go_roundw
              case rel => exact ⟨j + 1, hlt2, by go_num, below_drewN hBj _⟩
              case measure => simp [intOf]; omega
          · go_wp2_with fail
            go_ret
            exact ⟨rfl, step hB7 (Nat.le_refl _) hBj⟩

set_option maxRecDepth 100000 in
theorem lifted (os : Os) (started : os.Started) (H : Type) (enc : TypeId × Value → H) :
    ReturnsInHanded {} Try.checked os 7 .any (Rows.fnScoresAtSpec.pre6 enc Try.prog Try.f7 Rows.fnScoresAtRow.domain false) (Rows.fnScoresAtSpec.post enc Try.prog Try.f7 false true false false) := by
  refine returnsInHanded_of_change (C := Try.checked) own started (by kernel_rfl) Try.func7
    (ChangeSpec.witness6 (enc := enc) (C := Try.checked) false ⟨#[], #[.slice none 0 0], []⟩ 8 (by kernel_rfl) (by kernel_rfl) (by kernel_rfl) (by kernel_rfl)) ?_
  intro W base args ds gs before hval0 hW hcnd _
  have hval : ∀ (j : Nat) t v, Try.f7.params[j]? = some t → args[j]? = some v → Value.okWide Try.prog W .any base t v := hval0
  have hW' := hW
  obtain ⟨p, q, hA0, hV, rfl, hfz, hnd⟩ := hW
  have hA : DataW.TrodAll enc Try.prog W 0 (fun _ => true) true Try.f7.params.toList args.toList ds p := hA0
  rw [Try.params7] at hA hval
  obtain ⟨v0, vs0, d0, ds0, p0, q0, hargs, rfl, rfl, h0, r0⟩ := trodAll_cons hA
  obtain ⟨rfl, rfl, rfl⟩ := trodAll_nil r0
  obtain rfl : args = #[v0] := by cases args; simp_all
  obtain ⟨rfl, rfl⟩ := trodVars_none hV
  obtain ⟨a0, len0, cap0, rfl⟩ := okWide_slice Try.underlying22 (hval 0 22 v0 rfl rfl)
  have k0 := h0
  have lt0 : ∀ x ∈ p0, x.block < W.heap.size := by obtain ⟨m, hm⟩ := k0; exact DataW.trod_lt m _ _ _ hm
  obtain ⟨z0, w0⟩ : ∃ zs, IsBytes W (.slice a0 len0 cap0) zs := by
    obtain ⟨fuel, hf⟩ := h0
    rcases open_ints Try.underlying22 Try.underlying5 (by kernel_rfl) hf with ⟨hcs, _⟩ | ⟨x, ln, cp, zs, hcs, _, hl, hm, hz, _, hcell, hwz⟩
    · exact bytes_of_none (by simpa [Value.cells] using hcs)
    · exact bytes_of_some (by simpa [Value.cells] using hcs) hl hm (by simpa using hz) hcell hwz
  clear hA0 hval0
  refine (walk (.slice a0 len0 cap0) z0 W w0).mono fun e W' ⟨he, bel⟩ => ?_
  subst he
  exact ⟨_, rfl, _, _, _, [], _, [], hW', trodAll_mk1 (shut_bool Try.underlying4 _), (trodAll_cons_mk (Below.trod laidOut (by kernel_rfl) (of_decide_eq_true (by kernel_rfl)) k0 bel lt0) trodAll_mk0), rfl, bel.frame _, fun h => by cases h⟩

theorem over : Rows.fnScoresAtRow.holds Try.pinned (OpenSpec.ofChange Rows.fnScoresAtSpec) :=
  OpenClaim.holds_of_wide 7 Try.f7 rfl rfl rfl rfl rfl rfl rfl ⟨rfl, rfl, rfl, rfl, rfl⟩ rfl rfl rfl rfl rfl (by kernel_rfl) Try.func7 (by kernel_rfl)
    (of_decide_eq_true (by kernel_rfl)) (by unfold Func.isWrapper; first | (rw [if_pos (by decide +kernel)]; kernel_rfl) | (rw [if_neg (by decide +kernel)]; exact ⟨rfl, rfl⟩))
    (fun os started H enc _ => lifted os started H enc)

theorem proved : Rows.FnScoresAtSaid := over
end Go.Proofs.Ytkoheomkledleaa.fnScoresAt
