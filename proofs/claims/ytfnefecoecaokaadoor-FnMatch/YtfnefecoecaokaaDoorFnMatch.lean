/- Proved: of every drawn pattern and text Match answers as its model; a text is as itself, and as a star; with a star ahead or behind it is still so; a question mark is any one byte, another byte is itself alone. No condition but that the listed tables of unicode/utf8 hold what the program's text lays (the card ties them). -/
import Derived.Test.YtfnefecoecaokaaDoorMatchD
import Derived.Test.YtfnefecoecaokaaDoorCards
import Derived.Test.YtfnefecoecaokaaDoorTie
import Derived.ProofKit
import Derived.OpenShut
import Derived.ShutString
import Derived.ChangeOld
import Derived.Below
import Derived.LaidMore
import Derived.Lay
import Derived.SevenTiedAt
import Derived.Stop.Joined
namespace Go.Proofs.YtfnefecoecaokaaDoor.fnMatch
open Go.ChangeShapes Go.WideShapes Go.ChangeAt Go.RowKit
open Go.ChangeMaps (open_string shut_string)
set_option linter.unusedVariables false

theorem own : ownKnob Tryd.prog.godebug = none := by kernel_rfl
theorem laidOut : laidOutB Tryd.prog = true := by kernel_rfl
theorem below_drew {B : Nat} {a w : World} (h : Below B a w) (m : Nat) : Below B a (w.drewN m) := ⟨h.os, h.tape, h.output, h.size, h.block⟩
theorem cat_size (a b : ByteArray) (n : Nat) (ha : a.size ≤ 10) (hb : b.size ≤ 10) (hn : 20 ≤ n) : (a ++ b).size ≤ n := by rw [ByteArray.size_append]; omega
theorem isLen (w : World) (v : Value) (zs : List Int) (h : IsBytes w v zs) : ∃ ao cap, v = .slice ao zs.length cap ∧ zs.length ≤ 9223372036854775807 := by
  obtain ⟨ao, cap, h1, h2, h3, _⟩ := h
  unfold maxLen at h3; exact ⟨ao, cap, h1, by omega⟩
set_option maxHeartbeats 4000000 in
theorem walk (v0 : Value) (zs : List Int) (w : World) (h : IsBytes w v0 zs) :
    Calls Tryd.prog 6 #[v0] w fun e w' => e = .returned (.bool true) ∧ Below w.heap.size w w' := by
  obtain ⟨ao, cap, rfl, hlm⟩ := isLen w v0 zs h
  rcases Int.lt_or_le (1048576 : Int) (zs.length : Int) with h0 | h0
  · go_enter Tryd.func6, Tryd.ntmps6
    go_wp2_with fail
    go_ret
    exact ⟨rfl, Below.refl _ _⟩
  go_enter Tryd.func6, Tryd.ntmps6
  go_wp2_with fail
  refine (drawM_any _ zs _ h).mono ?_
  rintro e w1 ⟨P, S, rfl, hP, hS, hB⟩
  have HA : Hid (mtch (ByteArray.mk #[42]).data.toList S.data.toList = true) := mtch_all _
  have HS : Hid (mtch S.data.toList S.data.toList = true) := mtch_self _
  have HN : Hid (mtch ((ByteArray.mk #[97]) ++ P).data.toList ((ByteArray.mk #[98]) ++ S).data.toList = false) := by
    show _ = _; rw [app_data, app_data]; exact mtch_miss _ _ _ (by decide) (by decide) (by decide)
  have HQ : Hid (mtch ((ByteArray.mk #[63]) ++ P).data.toList ((ByteArray.mk #[120]) ++ S).data.toList = mtch P.data.toList S.data.toList) := by
    show _ = _; rw [app_data, app_data]; exact mtch_hit _ _ _ (by decide) (.inl rfl)
  have z1 : ∀ (c : ByteArray) (s : ByteArray), c.size ≤ 10 → s.size ≤ 10 → (c ++ s).size ≤ 9223372036854775806 := fun c s h1 h2 => cat_size c s _ h1 h2 (by decide)
  cases hb : mtch P.data.toList S.data.toList with
  | false =>
    rw [hb] at HQ
    have HB : Hid (mtch P.data.toList S.data.toList = false) := hb
    clear hb h
    go_wp2_with fail
    refine (implM_is _ _ false _ HB.out (by omega) (by omega)).mono ?_
    rintro e w2 ⟨rfl, m2, rfl⟩
    go_wp2_with fail
    refine (specM_is _ _ false _ HB.out (by omega) (by omega)).mono ?_
    rintro e w3 ⟨rfl, m3, rfl⟩
    go_wp2_with fail
    refine (implM_is _ _ true _ HA.out (by decide) (by omega)).mono ?_
    rintro e w4 ⟨rfl, m4, rfl⟩
    go_wp2_with fail
    refine (implM_is _ _ true _ HS.out (by omega) (by omega)).mono ?_
    rintro e w5 ⟨rfl, m5, rfl⟩
    go_wp2_with fail
    refine (implM_is _ _ false _ HQ.out (z1 _ _ (by decide) hP) (z1 _ _ (by decide) hS)).mono ?_
    rintro e w6 ⟨rfl, m6, rfl⟩
    go_wp2_with fail
    refine (implM_is _ _ false _ HN.out (z1 _ _ (by decide) hP) (z1 _ _ (by decide) hS)).mono ?_
    rintro e w7 ⟨rfl, m7, rfl⟩
    go_wp2_with fail
    go_ret
    exact ⟨rfl, below_drew hB _⟩
  | true =>
    rw [hb] at HQ
    have HB : Hid (mtch P.data.toList S.data.toList = true) := hb
    have H1 : Hid (mtch ((ByteArray.mk #[42]) ++ P).data.toList S.data.toList = true) := by show _ = _; rw [app_data]; exact mtch_more hb
    have H2 : Hid (mtch ((ByteArray.mk #[42]) ++ P).data.toList ((ByteArray.mk #[120]) ++ S).data.toList = true) := by show _ = _; rw [app_data, app_data]; exact mtch_more1 _ hb
    have H3 : Hid (mtch (P ++ (ByteArray.mk #[42])).data.toList (S ++ (ByteArray.mk #[120])).data.toList = true) := by show _ = _; rw [app_data, app_data]; exact mtch_behind _ _ _ hb
    clear hb h
    go_wp2_with fail
    refine (implM_is _ _ true _ HB.out (by omega) (by omega)).mono ?_
    rintro e w2 ⟨rfl, m2, rfl⟩
    go_wp2_with fail
    refine (specM_is _ _ true _ HB.out (by omega) (by omega)).mono ?_
    rintro e w3 ⟨rfl, m3, rfl⟩
    go_wp2_with fail
    refine (implM_is _ _ true _ HA.out (by decide) (by omega)).mono ?_
    rintro e w4 ⟨rfl, m4, rfl⟩
    go_wp2_with fail
    refine (implM_is _ _ true _ HS.out (by omega) (by omega)).mono ?_
    rintro e w5 ⟨rfl, m5, rfl⟩
    go_wp2_with fail
    refine (implM_is _ _ true _ H1.out (z1 _ _ (by decide) hP) (by omega)).mono ?_
    rintro e w6 ⟨rfl, m6, rfl⟩
    go_wp2_with fail
    refine (implM_is _ _ true _ H2.out (z1 _ _ (by decide) hP) (z1 _ _ (by decide) hS)).mono ?_
    rintro e w7 ⟨rfl, m7, rfl⟩
    go_wp2_with fail
    refine (implM_is _ _ true _ H3.out (z1 _ _ hP (by decide)) (z1 _ _ hS (by decide))).mono ?_
    rintro e w8 ⟨rfl, m8, rfl⟩
    go_wp2_with fail
    refine (implM_is _ _ true _ HQ.out (z1 _ _ (by decide) hP) (z1 _ _ (by decide) hS)).mono ?_
    rintro e w9 ⟨rfl, m9, rfl⟩
    go_wp2_with fail
    refine (implM_is _ _ false _ HN.out (z1 _ _ (by decide) hP) (z1 _ _ (by decide) hS)).mono ?_
    rintro e w10 ⟨rfl, m10, rfl⟩
    go_wp2_with fail
    go_ret
    exact ⟨rfl, below_drew hB _⟩

set_option maxRecDepth 100000 in
theorem lifted (os : Os) (started : os.Started) (H : Type) (enc : TypeId × Value → H) :
    ReturnsInHanded {} Tryd.checked os 6 .any (fun w args => (Rows.fnMatchSpec.pre enc Tryd.prog Tryd.f6 Rows.fnMatchRow.domain false w args ∧ laidMetH Tryd.prog Rows.fnMatchRow.laid w) ∧ sizedMet enc Tryd.prog Tryd.f6 (OpenSpec.ofChange Rows.fnMatchSpec) false w args)
      (Rows.fnMatchSpec.post enc Tryd.prog Tryd.f6 false true false false) := by
  refine returnsInHanded_of_change_and (C := Tryd.checked) (X := fun w _ => laidMetH Tryd.prog Rows.fnMatchRow.laid w) (fun _ _ _ hh h => h.of_heap hh) own started (by kernel_rfl) Tryd.func6
    (ChangeSpec.witness_shaped (enc := enc) (C := Tryd.checked) (os := os) (X := fun w _ => laidMetH Tryd.prog Rows.fnMatchRow.laid w) false (World.laidAll Tryd.prog os Rows.fnMatchRow.laid) #[.slice none 0 0] 8 (World.laidAll_os _ _ _)
      (World.shaped_of_ZipB (by kernel_rfl) (by kernel_rfl)) (by kernel_rfl) (by kernel_rfl) (by kernel_rfl)
      (by rw [MakeChecks.laidMetH_plain _ _ _ (by kernel_rfl)]; exact laidMet_laidAll _ (by kernel_rfl) (by kernel_rfl))) ?_
  intro W base args ds gs before hval0 hW hcnd _ hL _
  have hval : ∀ (j : Nat) t v, Tryd.f6.params[j]? = some t → args[j]? = some v → Value.okWide Tryd.prog W .any base t v := hval0
  have hW' := hW
  obtain ⟨p, q, hA0, hV, rfl, hfz, hnd⟩ := hW
  have hA : DataW.TrodAll enc Tryd.prog W 0 (fun _ => true) true Tryd.f6.params.toList args.toList ds p := hA0
  rw [Tryd.params6] at hA hval
  obtain ⟨v0, vs0, d0, ds0, p0, q0, hargs, rfl, rfl, h0, r0⟩ := trodAll_cons hA
  obtain ⟨rfl, rfl, rfl⟩ := trodAll_nil r0
  obtain rfl : args = #[v0] := by cases args; simp_all
  obtain ⟨rfl, rfl⟩ := trodVars_none hV
  obtain ⟨a0, len0, cap0, rfl⟩ := okWide_slice Tryd.underlying22 (hval 0 22 v0 rfl rfl)
  have k0 := h0
  have lt0 : ∀ x ∈ p0, x.block < W.heap.size := by obtain ⟨m, hm⟩ := k0; exact DataW.trod_lt m _ _ _ hm
  obtain ⟨z0, w0⟩ : ∃ zs, IsBytes W (.slice a0 len0 cap0) zs := by
    obtain ⟨fuel, hf⟩ := h0
    rcases open_ints Tryd.underlying22 Tryd.underlying5 (by kernel_rfl) hf with ⟨hcs, _⟩ | ⟨x, ln, cp, zs, hcs, _, hl, hm, hz, _, hcell, hwz⟩
    · exact bytes_of_none (by simpa [Value.cells] using hcs)
    · exact bytes_of_some (by simpa [Value.cells] using hcs) hl hm (by simpa using hz) hcell hwz
  clear hA0 hval0
  refine (walk (.slice a0 len0 cap0) z0 W w0).mono fun e W' ⟨he, bel⟩ => ?_
  subst he
  exact ⟨_, rfl, _, _, _, [], _, [], hW', trodAll_mk1 (shut_bool Tryd.underlying4 _), (trodAll_cons_mk (Below.trod laidOut (by kernel_rfl) (of_decide_eq_true (by kernel_rfl)) k0 bel lt0) trodAll_mk0), rfl, bel.frame _, fun h => by cases h⟩

theorem over : Rows.fnMatchRow.holds Tryd.pinned (OpenSpec.ofChange Rows.fnMatchSpec) :=
  OpenClaim.holds_of_wide 6 Tryd.f6 rfl rfl rfl rfl rfl rfl rfl ⟨rfl, rfl, rfl, rfl, rfl⟩ rfl rfl rfl rfl rfl (by kernel_rfl) Tryd.func6 (by kernel_rfl)
    (of_decide_eq_true (by kernel_rfl)) (by unfold Func.isWrapper; first | (rw [if_pos (by decide +kernel)]; kernel_rfl) | (rw [if_neg (by decide +kernel)]; exact ⟨rfl, rfl⟩))
    (fun os started H enc _ => lifted os started H enc)

theorem proved : Rows.FnMatchCardSaid :=
  Claim7.holds_tied_plain_at .later [] _ _ _ _ over (fun _ h => by cases h) (by kernel_rfl) (fun _ h => by cases h) fnMatch_row_tie rfl ⟨rfl, rfl⟩ (by kernel_rfl) rfl
    (fun f fn hf hfn => by
      obtain rfl : f = 6 := Option.some.inj ((show Tryd.prog.funcNamed "loop.example/quincunx/laws.FnMatch" = some 6 by kernel_rfl).symm.trans hf) |>.symm
      obtain rfl : fn = Tryd.f6 := (Option.some.inj (Tryd.func6.symm.trans hfn)).symm
      exact ⟨by kernel_rfl, fun j t ht => by
        rw [Tryd.params6] at ht
        have hm : t ∈ [22] := by simpa using Array.mem_of_getElem? ht
        have hall : ([22].all fun u => !Tryd.prog.wantsStandIn u) = true := by kernel_rfl
        exact (show Tryd.prog.wantsStandIn t = false by simpa using List.all_eq_true.1 hall t hm)⟩)
    (by kernel_rfl)
end Go.Proofs.YtfnefecoecaokaaDoor.fnMatch
