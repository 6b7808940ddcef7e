/- Proved: of drawn scores and two numbers ScoresBy answers as its model; of scores that are ok these are all whose numbers are within, side by side. No condition. -/
import Derived.Test.YtkoheomkledleaaQxS
import Derived.Test.YtkoheomkledleaaScO
import Derived.ProofKit
import Derived.OpenShut
import Derived.ShutString
import Derived.ChangeOld
import Derived.Below
import Derived.Deep.RegionWith
namespace Go.Proofs.Ytkoheomkledleaa.fnScoresBy
open Go.ChangeShapes Go.WideShapes Go.ChangeAt Go.RowKit
open Go.ChangeMaps (open_string shut_string)
set_option linter.unusedVariables false

theorem own : ownKnob Try.prog.godebug = none := by kernel_rfl
theorem laidOut : laidOutB Try.prog = true := by kernel_rfl
theorem by_front (lo hi : Int) : ∀ (l : List (ByteArray × Int)), l.Pairwise (fun x y => x.2 ≤ y.2) → (∀ x ∈ l, lo ≤ x.2) → scBy l lo hi = l.take (scBy l lo hi).length
  | [], _, _ => rfl
  | x :: l, h, hl => by
    rw [List.pairwise_cons] at h
    unfold scBy
    by_cases hx : x.2 ≤ hi
    · have hin : scIn lo hi x = true := by unfold scIn; simp [hx, hl x (by simp)]
      rw [List.filter_cons_of_pos hin, List.length_cons, List.take_succ_cons]
      congr 1
      exact by_front lo hi l h.2 (fun y hy => hl y (by simp [hy]))
    · have hin : scIn lo hi x = false := by unfold scIn; simp [hx]
      have he : (x :: l).filter (scIn lo hi) = [] := by
        rw [List.filter_eq_nil_iff]
        intro y hy
        have : ¬ y.2 ≤ hi := by
          rcases List.mem_cons.1 hy with e | e
          · rw [e]; exact hx
          · have := h.1 y e; omega
        unfold scIn; simp [this]
      rw [he]; rfl
theorem by_mid (lo hi : Int) : ∀ (l : List (ByteArray × Int)), l.Pairwise (fun x y => x.2 ≤ y.2) → scBy l lo hi = (l.drop (l.findIdx (scIn lo hi))).take (scBy l lo hi).length
  | [], _ => rfl
  | x :: l, h => by
    have h' := h
    rw [List.pairwise_cons] at h
    by_cases hin : scIn lo hi x = true
    · rw [List.findIdx_cons, hin]
      have hlo : lo ≤ x.2 := by unfold scIn at hin; simp at hin; exact hin.1
      simp only [cond_true, List.drop_zero]
      exact by_front lo hi (x :: l) h' (fun y hy => by
        rcases List.mem_cons.1 hy with e | e
        · rw [e]; exact hlo
        · have := h.1 y e; omega)
    · have hin' : scIn lo hi x = false := by simpa using hin
      rw [List.findIdx_cons, hin']
      simp only [cond_false, List.drop_succ_cons]
      have e : scBy (x :: l) lo hi = scBy l lo hi := by unfold scBy; rw [List.filter_cons_of_neg hin]
      rw [e]; exact by_mid lo hi l h.2
theorem ok_le {l : List (ByteArray × Int)} (h : scOkB l = true) : l.Pairwise (fun x y => x.2 ≤ y.2) := by
  refine List.Pairwise.imp ?_ (scOk_all h).2.1
  intro x y hxy
  unfold scAheadB at hxy
  simp only [Bool.or_eq_true, Bool.and_eq_true, decide_eq_true_eq] at hxy
  rcases hxy with h | h <;> omega
/-- the first place, or -1 -/
def frI (l : List (ByteArray × Int)) (lo hi : Int) : Int := if (scBy l lo hi).length = 0 then -1 else (l.findIdx (scIn lo hi) : Int)
theorem any_of {l : List (ByteArray × Int)} {lo hi : Int} (h : (scBy l lo hi).length ≠ 0) : ∃ x, x ∈ l ∧ scIn lo hi x = true := by
  cases he : scBy l lo hi with
  | nil => rw [he] at h; simp at h
  | cons y r =>
    have hy : y ∈ scBy l lo hi := by rw [he]; simp
    have := List.mem_filter.1 hy
    exact ⟨y, this.1, this.2⟩
theorem none_of {l : List (ByteArray × Int)} {lo hi : Int} (h : (scBy l lo hi).length = 0) : ¬ ∃ x, x ∈ l ∧ scIn lo hi x = true := by
  rintro ⟨x, hx, hi'⟩
  have : x ∈ scBy l lo hi := List.mem_filter.2 ⟨hx, hi'⟩
  rw [List.length_eq_zero_iff.1 h] at this; cases this
theorem fr_first {l : List (ByteArray × Int)} {lo hi : Int} {k : Nat} (hk : k < l.length) (h : scIn lo hi (scAt l k) = true) (h0 : (scBy (l.take k) lo hi).length = 0) : frI (l.take (k + 1)) lo hi = (k : Int) := by
  have e : l.take (k + 1) = l.take k ++ [scAt l k] := by rw [List.take_succ_eq_append_getElem hk, ← scAt_get hk]
  unfold frI
  rw [scBy_hit hk h, if_neg (by simp), e, List.findIdx_append, if_neg (fun hh => none_of h0 (List.findIdx_lt_length.1 hh)), List.findIdx_cons, h]
  simp; omega
theorem fr_later {l : List (ByteArray × Int)} {lo hi : Int} {k : Nat} (hk : k < l.length) (h : scIn lo hi (scAt l k) = true) (h0 : (scBy (l.take k) lo hi).length ≠ 0) : frI (l.take (k + 1)) lo hi = frI (l.take k) lo hi := by
  have e : l.take (k + 1) = l.take k ++ [scAt l k] := by rw [List.take_succ_eq_append_getElem hk, ← scAt_get hk]
  unfold frI
  rw [scBy_hit hk h, if_neg (by simp), if_neg h0, e, List.findIdx_append, if_pos (List.findIdx_lt_length.2 (any_of h0))]
theorem fr_miss {l : List (ByteArray × Int)} {lo hi : Int} {k : Nat} (hk : k < l.length) (h : scIn lo hi (scAt l k) = false) : frI (l.take (k + 1)) lo hi = frI (l.take k) lo hi := by
  have e : l.take (k + 1) = l.take k ++ [scAt l k] := by rw [List.take_succ_eq_append_getElem hk, ← scAt_get hk]
  unfold frI
  rw [scBy_miss hk h]
  split
  · rfl
  · next h0 => rw [e, List.findIdx_append, if_pos (List.findIdx_lt_length.2 (any_of h0))]
theorem fr_neg {l : List (ByteArray × Int)} {lo hi : Int} : frI l lo hi < 0 ↔ (scBy l lo hi).length = 0 := by
  unfold frI; split
  · next h => simp [h]
  · next h => constructor
              · intro h'; omega
              · intro h'; exact absurd h' h
theorem at_all {l : List (ByteArray × Int)} (h : scOkB l = true) : scAtR l 0 (-1) = l := by
  unfold scAtR scAtB
  rw [h]
  have hp : (true && (placeB 0 && placeB (-1))) = true := by decide
  rw [if_pos hp]
  unfold scAtP endA endE fromP toP
  rcases Nat.eq_zero_or_pos l.length with h0 | h0
  · have : l = [] := List.length_eq_zero_iff.1 h0
    subst this; simp
  · have h1 : ¬ ((l.length : Int) ≤ -1 + (l.length : Int)) := by omega
    have h2 : ¬ (-1 + (l.length : Int) < 0) := by omega
    simp [h1, h2]
    rw [List.take_of_length_le (by omega)]
theorem at_mid {l : List (ByteArray × Int)} {f n : Nat} (h : scOkB l = true) (hn : 0 < n) (hf : f + n ≤ l.length) : scAtR l (f : Int) ((f : Int) + (n : Int) - 1) = (l.drop f).take n := by
  have hl := scOk_len h
  unfold scAtR scAtB
  rw [h]
  have hp : (true && (placeB (f : Int) && placeB ((f : Int) + (n : Int) - 1))) = true := by
    unfold placeB; simp only [Bool.true_and, Bool.and_eq_true, decide_eq_true_eq]; omega
  rw [if_pos hp]
  obtain ⟨h1, h2⟩ := ends_of (n := (l.length : Int)) (f := (f : Int)) (t := (f : Int) + (n : Int) - 1) (x := (f : Int)) (y := (f : Int) + (n : Int) - 1) (by unfold fromP; rw [if_neg (by omega)]) (by unfold toP; rw [if_neg (by omega), if_neg (by omega)]) (by omega) (by omega)
  unfold scAtP
  rw [show endE (l.length : Int) (f : Int) ((f : Int) + (n : Int) - 1) = f + n by omega, show endA (l.length : Int) (f : Int) ((f : Int) + (n : Int) - 1) = f by omega, List.drop_take]
  congr 1; omega
theorem by_at {l : List (ByteArray × Int)} {lo hi : Int} (h : scOkB l = true) (h0 : (scBy l lo hi).length ≠ 0) : scAtR l (frI l lo hi) (frI l lo hi + ((scBy l lo hi).length : Int) - 1) = scBy l lo hi := by
  have hm := by_mid lo hi l (ok_le h)
  have hf : frI l lo hi = (l.findIdx (scIn lo hi) : Int) := by unfold frI; rw [if_neg h0]
  have hle : l.findIdx (scIn lo hi) + (scBy l lo hi).length ≤ l.length := by
    have := congrArg List.length hm
    rw [List.length_take, List.length_drop] at this
    have h1 := List.findIdx_le_length (p := scIn lo hi) (xs := l)
    omega
  rw [hf, at_mid h (by omega) hle]; exact hm.symm
theorem fr_bd {l : List (ByteArray × Int)} {lo hi : Int} : -1 ≤ frI l lo hi ∧ frI l lo hi ≤ l.length := by
  have h1 := List.findIdx_le_length (p := scIn lo hi) (xs := l)
  unfold frI; split <;> omega
theorem by_len (l : List (ByteArray × Int)) (lo hi : Int) : (scBy l lo hi).length ≤ l.length := List.length_filter_le _ _
theorem byR_len (l : List (ByteArray × Int)) (lo hi : Int) (h : l.length ≤ 17) : (scByR l lo hi).length ≤ 17 := by
  have := by_len l lo hi
  unfold scByR; split
  · omega
  · simp
theorem isLen (w : World) (v : Value) (zs : List Int) (h : IsBytes w v zs) : ∃ ao cap, v = .slice ao zs.length cap ∧ zs.length ≤ 9223372036854775807 := by
  obtain ⟨ao, cap, h1, h2, h3, _⟩ := h
  unfold maxLen at h3; exact ⟨ao, cap, h1, by omega⟩
theorem step {B : Nat} {a w w' : World} (h : Below B a w) (hB : B ≤ a.heap.size) (hb : Below w.heap.size w w') : Below B a w' := h.trans (hb.mono (Nat.le_trans hB h.size))
set_option maxHeartbeats 4000000 in
theorem walk (v0 : Value) (zs : List Int) (w : World) (h : IsBytes w v0 zs) :
    Calls Try.prog 6 #[v0] w fun e w' => e = .returned (.bool true) ∧ Below w.heap.size w w' := by
  obtain ⟨ao, cap, rfl, hlm⟩ := isLen w v0 zs h
  rcases Int.lt_or_le (1048576 : Int) (zs.length : Int) with h0 | h0
  · go_enter Try.func6, Try.ntmps6
    go_wp2_with fail
    go_ret
    exact ⟨rfl, Below.refl _ _⟩
  go_enter Try.func6, Try.ntmps6
  go_wp2_with fail
  refine (drawBy_any _ zs _ h).mono ?_
  rintro e w1 ⟨x, O, a, b, rfl, ho1, hO, ha0, ha1, hb0, hb1, hB1⟩
  have hr1 := ownsR_reads scC_len ho1
  clear h ho1
  have hbl := by_len O a b
  have hRl : (scByR O a b).length ≤ 17 := byR_len O a b hO
  go_wp2_with fail
  refine (implScoresBy_any _ O a b _ hr1 (by omega)).mono ?_
  rintro e w2 ⟨y, rfl, ho2, hb2⟩
  have hr2 := readsR_kept hr1 hb2
  have hy2 := ownsR_reads scC_len ho2
  have hB2 := step hB1 (Nat.le_refl _) hb2
  clear hr1 hb2 hB1 ho2
  go_wp2_with fail
  refine (specScoresBy_any _ O a b _ hr2 (by omega)).mono ?_
  rintro e w3 ⟨z, rfl, ho3, hb3⟩
  have hr3 := readsR_kept hr2 hb3
  have hy3 := readsR_kept hy2 hb3
  have hz3 := ownsR_reads scC_len ho3
  have hB3 := step hB2 (Nat.le_refl _) hb3
  clear hr2 hb3 hB2 ho3 hy2
  go_wp2_with fail
  refine (qxS_true y z _ _ hy3 hz3 (by omega)).mono ?_
  rintro e w4 ⟨rfl, hb4⟩
  have hr4 := readsR_kept hr3 hb4
  have hy4 := readsR_kept hy3 hb4
  have hB4 := step hB3 (Nat.le_refl _) hb4
  clear hr3 hb4 hB3 hy3 hz3
  go_wp2_with fail
  refine (specScoresOk_any _ O _ hr4 (by omega)).mono ?_
  rintro e w5 ⟨rfl, hb5⟩
  have hr5 := readsR_kept hr4 hb5
  have hy5 := readsR_kept hy4 hb5
  have hB5 := step hB4 (Nat.le_refl _) hb5
  clear hr4 hb5 hB4 hy4
  cases hok : scOkB O with
  | false =>
    clear hok
    go_wp2_with fail
    refine (specScoresBy_any _ O a b _ hr5 (by omega)).mono ?_
    rintro e w6 ⟨z6, rfl, ho6, hb6⟩
    have hy6 := readsR_kept hy5 hb6
    have hz6 := ownsR_reads scC_len ho6
    have hB6 := step hB5 (Nat.le_refl _) hb6
    go_wp2_with fail
    refine (qxS_true y z6 _ _ hy6 hz6 (by omega)).mono ?_
    rintro e w7 ⟨rfl, hb7⟩
    have hB7 := step hB6 (Nat.le_refl _) hb7
    go_wp2_with fail
    go_ret
    exact ⟨rfl, hB7⟩
  | true =>
    have HR : scByR O a b = scBy O a b := if_pos hok
    rw [HR] at hy5 hRl
    clear HR
    have HOK : Hid (scOkB O = true) := hok
    clear hok
    obtain ⟨ax, cx, rfl⟩ := readsR_shape hr5
    obtain ⟨ay, cy, rfl⟩ := readsR_shape hy5
    have HY : Hid (ScReads w5 (.slice ay (scBy O a b).length cy) (scBy O a b)) := hy5
    clear hy5
    go_wp2_with fail
    go_loop [7, 8, 9] (fun n f i => ∃ k : Nat, k ≤ O.length ∧ i = .int .i64 (k : Int) ∧ n = .int .i64 ((scBy (O.take k) a b).length : Int) ∧ f = .int .i64 (frI (O.take k) a b)) (fun _ _ i => O.length - (intOf i).toNat)
    case atStart => exact ⟨0, Nat.zero_le _, rfl, rfl, rfl⟩
    case round =>
      obtain ⟨k, hk, rfl, rfl, rfl⟩ := hrel
      have hbk := by_len (O.take k) a b
      rw [List.length_take] at hbk
      by_cases hlt : k < O.length
      · obtain ⟨g, off, rfl, hg, _, _, hc⟩ := sc_some hr5 (by omega)
        have hcl := sc_cells hc hlt
        have hc1 := hcl.2
        clear hcl hc
        have hfn := fr_neg (l := O.take k) (lo := a) (hi := b)
        by_cases hin : scIn a b (scAt O k) = true
        · have h1 : a ≤ (scAt O k).2 := by unfold scIn at hin; simp at hin; exact hin.1
          have h2 : (scAt O k).2 ≤ b := by unfold scIn at hin; simp at hin; exact hin.2
          have HN : Hid ((scBy (O.take (k + 1)) a b).length = (scBy (O.take k) a b).length + 1) := by show _ = _; rw [scBy_hit hlt hin]; simp
          by_cases hz : (scBy (O.take k) a b).length = 0
          · have HF : Hid (frI (O.take (k + 1)) a b = (k : Int)) := fr_first hlt hin hz
            have hneg := hfn.2 hz
            clear hfn hz hin
            go_wp2_with fail
            go_round
            case rel => exact ⟨k + 1, by omega, by go_num, by rw [HN.out]; go_num, by rw [HF.out]⟩
            case measure => simp [intOf]; omega
          · have HF : Hid (frI (O.take (k + 1)) a b = frI (O.take k) a b) := fr_later hlt hin hz
            have hneg : ¬ frI (O.take k) a b < 0 := fun h => hz (hfn.1 h)
            clear hfn hz hin
            go_wp2_with fail
            go_round
            case rel => exact ⟨k + 1, by omega, by go_num, by rw [HN.out]; go_num, by rw [HF.out]⟩
            case measure => simp [intOf]; omega
        · have hin' : scIn a b (scAt O k) = false := by simpa using hin
          have HN : Hid ((scBy (O.take (k + 1)) a b).length = (scBy (O.take k) a b).length) := by show _ = _; rw [scBy_miss hlt hin']
          have HF : Hid (frI (O.take (k + 1)) a b = frI (O.take k) a b) := fr_miss hlt hin'
          by_cases h1 : a ≤ (scAt O k).2
          · have h2 : ¬ (scAt O k).2 ≤ b := by intro h2; apply hin; unfold scIn; simp [h1, h2]
            clear hfn hin hin'
            go_wp2_with fail
            go_round
            case rel => exact ⟨k + 1, by omega, by go_num, by rw [HN.out], by rw [HF.out]⟩
            case measure => simp [intOf]; omega
          · clear hfn hin hin'
            go_wp2_with fail
            go_round
            case rel => exact ⟨k + 1, by omega, by go_num, by rw [HN.out], by rw [HF.out]⟩
            case measure => simp [intOf]; omega
      · have e : O.take k = O := List.take_of_length_le (by omega)
        rw [e]
        clear e hbk
        have hfb := fr_bd (l := O) (lo := a) (hi := b)
        go_wp2_with fail
        refine (implScoresAt_any _ O 0 (-1) _ hr5 (by omega)).mono ?_
        rintro e w6 ⟨u, rfl, ho6, hb6⟩
        rw [at_all HOK.out] at ho6
        have hr6 := readsR_kept hr5 hb6
        have hu6 := ownsR_reads scC_len ho6
        have hy6 := readsR_kept HY.out hb6
        have hB6 := step hB5 (Nat.le_refl _) hb6
        go_wp2_with fail
        refine (qxS_true u _ O _ hu6 hr6 (by omega)).mono ?_
        rintro e w7 ⟨rfl, hb7⟩
        have hr7 := readsR_kept hr6 hb7
        have HY7 : Hid (ScReads w7 (.slice ay (scBy O a b).length cy) (scBy O a b)) := readsR_kept hy6 hb7
        have hB7 := step hB6 (Nat.le_refl _) hb7
        clear hr6 hb7 hu6 hy6 hb6 hB6 HY hr5 hB5 ho6
        by_cases hz : (scBy O a b).length = 0
        · have hz' : (((scBy O a b).length : Int) == 0) = true := by rw [hz]; rfl
          clear hz
          go_wp2_with fail
          go_ret
          exact ⟨rfl, hB7⟩
        · have hz' : (((scBy O a b).length : Int) == 0) = false := beq_eq_false_iff_ne.2 (by omega)
          have HA := by_at (lo := a) (hi := b) HOK.out hz
          have HAH : Hid (scAtR O (frI O a b) (frI O a b + ((scBy O a b).length : Int) - 1) = scBy O a b) := HA
          clear HA hz
          go_wp2_with fail
          refine (implScoresAt_any _ O _ _ _ hr7 (by omega)).mono ?_
          rintro e w8 ⟨u, rfl, ho8, hb8⟩
          rw [HAH.out] at ho8
          have hu8 := ownsR_reads scC_len ho8
          have hy8 := readsR_kept HY7.out hb8
          have hB8 := step hB7 (Nat.le_refl _) hb8
          go_wp2_with fail
          refine (qxS_true u _ _ _ hu8 hy8 (by omega)).mono ?_
          rintro e w9 ⟨rfl, hb9⟩
          have hB9 := step hB8 (Nat.le_refl _) hb9
          go_wp2_with fail
          go_ret
          exact ⟨rfl, hB9⟩

set_option maxRecDepth 100000 in
theorem lifted (os : Os) (started : os.Started) (H : Type) (enc : TypeId × Value → H) :
    ReturnsInHanded {} Try.checked os 6 .any (Rows.fnScoresBySpec.pre6 enc Try.prog Try.f6 Rows.fnScoresByRow.domain false) (Rows.fnScoresBySpec.post enc Try.prog Try.f6 false true false false) := by
  refine returnsInHanded_of_change (C := Try.checked) own started (by kernel_rfl) Try.func6
    (ChangeSpec.witness6 (enc := enc) (C := Try.checked) false ⟨#[], #[.slice none 0 0], []⟩ 8 (by kernel_rfl) (by kernel_rfl) (by kernel_rfl) (by kernel_rfl)) ?_
  intro W base args ds gs before hval0 hW hcnd _
  have hval : ∀ (j : Nat) t v, Try.f6.params[j]? = some t → args[j]? = some v → Value.okWide Try.prog W .any base t v := hval0
  have hW' := hW
  obtain ⟨p, q, hA0, hV, rfl, hfz, hnd⟩ := hW
  have hA : DataW.TrodAll enc Try.prog W 0 (fun _ => true) true Try.f6.params.toList args.toList ds p := hA0
  rw [Try.params6] at hA hval
  obtain ⟨v0, vs0, d0, ds0, p0, q0, hargs, rfl, rfl, h0, r0⟩ := trodAll_cons hA
  obtain ⟨rfl, rfl, rfl⟩ := trodAll_nil r0
  obtain rfl : args = #[v0] := by cases args; simp_all
  obtain ⟨rfl, rfl⟩ := trodVars_none hV
  obtain ⟨a0, len0, cap0, rfl⟩ := okWide_slice Try.underlying22 (hval 0 22 v0 rfl rfl)
  have k0 := h0
  have lt0 : ∀ x ∈ p0, x.block < W.heap.size := by obtain ⟨m, hm⟩ := k0; exact DataW.trod_lt m _ _ _ hm
  obtain ⟨z0, w0⟩ : ∃ zs, IsBytes W (.slice a0 len0 cap0) zs := by
    obtain ⟨fuel, hf⟩ := h0
    rcases open_ints Try.underlying22 Try.underlying5 (by kernel_rfl) hf with ⟨hcs, _⟩ | ⟨x, ln, cp, zs, hcs, _, hl, hm, hz, _, hcell, hwz⟩
    · exact bytes_of_none (by simpa [Value.cells] using hcs)
    · exact bytes_of_some (by simpa [Value.cells] using hcs) hl hm (by simpa using hz) hcell hwz
  clear hA0 hval0
  refine (walk (.slice a0 len0 cap0) z0 W w0).mono fun e W' ⟨he, bel⟩ => ?_
  subst he
  exact ⟨_, rfl, _, _, _, [], _, [], hW', trodAll_mk1 (shut_bool Try.underlying4 _), (trodAll_cons_mk (Below.trod laidOut (by kernel_rfl) (of_decide_eq_true (by kernel_rfl)) k0 bel lt0) trodAll_mk0), rfl, bel.frame _, fun h => by cases h⟩

theorem over : Rows.fnScoresByRow.holds Try.pinned (OpenSpec.ofChange Rows.fnScoresBySpec) :=
  OpenClaim.holds_of_wide 6 Try.f6 rfl rfl rfl rfl rfl rfl rfl ⟨rfl, rfl, rfl, rfl, rfl⟩ rfl rfl rfl rfl rfl (by kernel_rfl) Try.func6 (by kernel_rfl)
    (of_decide_eq_true (by kernel_rfl)) (by unfold Func.isWrapper; first | (rw [if_pos (by decide +kernel)]; kernel_rfl) | (rw [if_neg (by decide +kernel)]; exact ⟨rfl, rfl⟩))
    (fun os started H enc _ => lifted os started H enc)

theorem proved : Rows.FnScoresBySaid := over
end Go.Proofs.Ytkoheomkledleaa.fnScoresBy
