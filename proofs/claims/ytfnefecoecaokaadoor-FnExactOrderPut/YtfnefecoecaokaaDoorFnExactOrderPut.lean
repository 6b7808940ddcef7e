/- Proved: at every list of texts OrderPut answers as its model, and writes into no argument. No condition but that the listed tables of math/bits and internal/strconv hold what the program's text lays (the card ties them). -/
import Derived.Test.YtfnefecoecaokaaDoorPutI
import Derived.Test.YtfnefecoecaokaaDoorCards
import Derived.Test.YtfnefecoecaokaaDoorTie
import Derived.ProofKit
import Derived.OpenShut
import Derived.ShutString
import Derived.ChangeOld
import Derived.Below
import Derived.LaidMore
import Derived.Lay
import Derived.SevenTiedAt
import Derived.Stop.Joined
namespace Go.Proofs.YtfnefecoecaokaaDoor.fnExactOrderPut
open Go.ChangeShapes Go.WideShapes Go.ChangeAt Go.RowKit
open Go.ChangeMaps (open_string shut_string)
set_option linter.unusedVariables false

theorem own : ownKnob Tryd.prog.godebug = none := by kernel_rfl
theorem laidOut : laidOutB Tryd.prog = true := by kernel_rfl
theorem ne_self (s : ByteArray) : (!s.toList == s.toList) = false := by simp
theorem eq_true (v u : Value) (l : List ByteArray) (w : World) (hr : Reads w v l) (hq : Reads w u l) (hlen : l.length ≤ 1048576) :
    Calls Tryd.prog 31 #[v, u] w fun e w' => e = .returned (.bool true) ∧ Below w.heap.size w w' :=
  (eq_any v u l l w hr hq hlen hlen).mono fun e w' ⟨h1, h2⟩ => ⟨by rw [h1]; simp, h2⟩
theorem step {B : Nat} {a w w' : World} (h : Below B a w) (hB : B ≤ a.heap.size) (hb : Below w.heap.size w w') : Below B a w' := h.trans (hb.mono (Nat.le_trans hB h.size))
set_option maxHeartbeats 4000000 in
theorem walk (v0 : Value) (l0 : List ByteArray) (w : World) (hr0 : Reads w v0 l0) (hs0 : ∀ s ∈ l0, s.size ≤ maxLen) (hlen0 : l0.length ≤ maxLen) :
    Calls Tryd.prog 8 #[v0] w fun e w' => e = .returned (.bool true) ∧ Below w.heap.size w w' := by
  rcases Int.lt_or_le (sz l0 1048576) 0 with hz0 | hz0
  · go_enter Tryd.func8, Tryd.ntmps8
    go_wp2_with fail
    refine (sz_any v0 l0 _ _ hr0 (by omega) (by omega) hs0 hlen0).mono ?_
    rintro e w' ⟨rfl, rfl⟩
    go_wp2_with fail
    go_ret
    exact ⟨rfl, Below.refl _ _⟩
  have hq0 := sz_len hz0
  have hl0 : l0.length ≤ 1048576 := by have := hq0.1; omega
  have hp0 := hq0.2.1
  clear hq0
  have hne := ne_self (ofL (putL l0))
  go_enter Tryd.func8, Tryd.ntmps8
  go_wp2_with fail
  refine (sz_any v0 l0 _ _ hr0 (by omega) (by omega) hs0 hlen0).mono ?_
  rintro e w' ⟨rfl, rfl⟩
  go_wp2_with fail
  refine (to_any v0 l0 _ hr0 hl0).mono ?_
  rintro e w1 ⟨p0, rfl, ho1, hb1⟩
  go_wp2_with fail
  refine (specPut_any p0 l0 _ (owns_reads ho1) hl0).mono ?_
  rintro e w2 ⟨rfl, hb2⟩
  have hB2 := step hb1 (Nat.le_refl _) hb2
  clear hb2 hb1 ho1
  go_wp2_with fail
  refine (to_any v0 l0 _ (reads_kept hr0 hB2) hl0).mono ?_
  rintro e w3 ⟨x0, rfl, ho3, hb3⟩
  have hB3 := step hB2 (Nat.le_refl _) hb3
  clear hB2 hb3
  go_wp2_with fail
  refine (implPut_any x0 l0 _ (owns_reads ho3) hl0).mono ?_
  rintro e w4 ⟨rfl, hb4⟩
  have ho4 := owns_kept ho3 hb4
  have hB4 := step hB3 (Nat.le_refl _) hb4
  clear hB3 hb4 ho3
  generalize ofL (putL l0) = R at *
  go_wp2_with fail
  refine (to_any v0 l0 _ (reads_kept hr0 hB4) hl0).mono ?_
  rintro e w5 ⟨y0, rfl, ho5, hb5⟩
  have ho6 := owns_kept ho4 hb5
  have hB5 := step hB4 (Nat.le_refl _) hb5
  clear hB4 hb5 ho4
  go_wp2_with fail
  refine (eq_true x0 y0 l0 _ (owns_reads ho6) (owns_reads ho5) hl0).mono ?_
  rintro e w6 ⟨rfl, hb6⟩
  have hB6 := step hB5 (Nat.le_refl _) hb6
  clear hB5 hb6 ho5 ho6
  go_wp2_with fail
  go_ret
  exact ⟨rfl, hB6⟩

set_option maxRecDepth 100000 in
theorem lifted (os : Os) (started : os.Started) (H : Type) (enc : TypeId × Value → H) :
    ReturnsInHanded {} Tryd.checked os 8 .any (fun w args => (Rows.fnExactOrderPutSpec.pre enc Tryd.prog Tryd.f8 Rows.fnExactOrderPutRow.domain false w args ∧ laidMetH Tryd.prog Rows.fnExactOrderPutRow.laid w) ∧ sizedMet enc Tryd.prog Tryd.f8 (OpenSpec.ofChange Rows.fnExactOrderPutSpec) false w args)
      (Rows.fnExactOrderPutSpec.post enc Tryd.prog Tryd.f8 false true false false) := by
  refine returnsInHanded_of_change_and (C := Tryd.checked) (X := fun w _ => laidMetH Tryd.prog Rows.fnExactOrderPutRow.laid w) (fun _ _ _ hh h => h.of_heap hh) own started (by kernel_rfl) Tryd.func8
    (ChangeSpec.witness_shaped (enc := enc) (C := Tryd.checked) (os := os) (X := fun w _ => laidMetH Tryd.prog Rows.fnExactOrderPutRow.laid w) false (World.laidAll Tryd.prog os Rows.fnExactOrderPutRow.laid) #[.slice none 0 0] 8 (World.laidAll_os _ _ _)
      (World.shaped_of_ZipB (by kernel_rfl) (by kernel_rfl)) (by kernel_rfl) (by kernel_rfl) (by kernel_rfl)
      (by rw [MakeChecks.laidMetH_plain _ _ _ (by kernel_rfl)]; exact laidMet_laidAll _ (by kernel_rfl) (by kernel_rfl))) ?_
  intro W base args ds gs before hval0 hW hcnd _ hL _
  have hval : ∀ (j : Nat) t v, Tryd.f8.params[j]? = some t → args[j]? = some v → Value.okWide Tryd.prog W .any base t v := hval0
  have hW' := hW
  obtain ⟨p, q, hA0, hV, rfl, hfz, hnd⟩ := hW
  have hA : DataW.TrodAll enc Tryd.prog W 0 (fun _ => true) true Tryd.f8.params.toList args.toList ds p := hA0
  rw [Tryd.params8] at hA hval
  obtain ⟨v0, vs0, d0, ds0, p0, q0, hargs, rfl, rfl, h0, r0⟩ := trodAll_cons hA
  obtain ⟨rfl, rfl, rfl⟩ := trodAll_nil r0
  obtain rfl : args = #[v0] := by cases args; simp_all
  obtain ⟨rfl, rfl⟩ := trodVars_none hV
  obtain ⟨a0, len0, cap0, rfl⟩ := okWide_slice Tryd.underlying23 (hval 0 23 v0 rfl rfl)
  have k0 := h0
  have lt0 : ∀ x ∈ p0, x.block < W.heap.size := by obtain ⟨m, hm⟩ := k0; exact DataW.trod_lt m _ _ _ hm
  obtain ⟨l0, w0⟩ : ∃ l, Reads W (.slice a0 len0 cap0) l ∧ (∀ s ∈ l, s.size ≤ maxLen) ∧ l.length ≤ maxLen := by
    obtain ⟨fuel, hf⟩ := h0
    rcases open_strings Tryd.underlying23 Tryd.underlying9 (by kernel_rfl) hf with ⟨hcs, _⟩ | ⟨x, ln, cp, ss, hcs, _, hl, hm, hz, _, hcell, hws⟩
    · exact reads_of_none (by simpa [Value.cells] using hcs)
    · exact reads_of_some (by simpa [Value.cells] using hcs) hl hm (by simpa using hz) hcell hws
  clear hA0 hval0
  refine (walk (.slice a0 len0 cap0) l0 W w0.1 w0.2.1 w0.2.2).mono fun e W' ⟨he, bel⟩ => ?_
  subst he
  exact ⟨_, rfl, _, _, _, [], _, [], hW', trodAll_mk1 (shut_bool Tryd.underlying4 _), (trodAll_cons_mk (Below.trod laidOut (by kernel_rfl) (of_decide_eq_true (by kernel_rfl)) k0 bel lt0) trodAll_mk0), rfl, bel.frame _, fun h => by cases h⟩

theorem over : Rows.fnExactOrderPutRow.holds Tryd.pinned (OpenSpec.ofChange Rows.fnExactOrderPutSpec) :=
  OpenClaim.holds_of_wide 8 Tryd.f8 rfl rfl rfl rfl rfl rfl rfl ⟨rfl, rfl, rfl, rfl, rfl⟩ rfl rfl rfl rfl rfl (by kernel_rfl) Tryd.func8 (by kernel_rfl)
    (of_decide_eq_true (by kernel_rfl)) (by unfold Func.isWrapper; first | (rw [if_pos (by decide +kernel)]; kernel_rfl) | (rw [if_neg (by decide +kernel)]; exact ⟨rfl, rfl⟩))
    (fun os started H enc _ => lifted os started H enc)

theorem proved : Rows.FnExactOrderPutCardSaid :=
  Claim7.holds_tied_plain_at .later [] _ _ _ _ over (fun _ h => by cases h) (by kernel_rfl) (fun _ h => by cases h) fnExactOrderPut_row_tie rfl ⟨rfl, rfl⟩ (by kernel_rfl) rfl
    (fun f fn hf hfn => by
      obtain rfl : f = 8 := Option.some.inj ((show Tryd.prog.funcNamed "loop.example/quincunx/laws.FnExactOrderPut" = some 8 by kernel_rfl).symm.trans hf) |>.symm
      obtain rfl : fn = Tryd.f8 := (Option.some.inj (Tryd.func8.symm.trans hfn)).symm
      exact ⟨by kernel_rfl, fun j t ht => by
        rw [Tryd.params8] at ht
        have hm : t ∈ [23] := by simpa using Array.mem_of_getElem? ht
        have hall : ([23].all fun u => !Tryd.prog.wantsStandIn u) = true := by kernel_rfl
        exact (show Tryd.prog.wantsStandIn t = false by simpa using List.all_eq_true.1 hall t hm)⟩)
    (by kernel_rfl)
end Go.Proofs.YtfnefecoecaokaaDoor.fnExactOrderPut
