/- Proved: of every drawn set and texts, what was added is there and all that was, as many more as told; again it is the same; SetAdd and SetOk answer as their models. No condition. -/
import Derived.Test.YtlgchkmgbjcboaaDrawS
import Derived.Test.YtlgchkmgbjcboaaQx
import Derived.Test.YtlgchkmgbjcboaaQxH
import Derived.ProofKit
import Derived.OpenShut
import Derived.ShutString
import Derived.ChangeOld
import Derived.Below
import Derived.Deep.RegionWith
namespace Go.Proofs.Ytlgchkmgbjcboaa.fnSetAdd
open Go.ChangeShapes Go.WideShapes Go.ChangeAt Go.RowKit
open Go.ChangeMaps (open_string shut_string)
set_option linter.unusedVariables false

theorem own : ownKnob Try.prog.godebug = none := by kernel_rfl
theorem laidOut : laidOutB Try.prog = true := by kernel_rfl

theorem setB_okB {a : List ByteArray} (h : setB a = true) : okB a = true := by unfold setB at h; rw [Bool.and_eq_true] at h; exact h.2
theorem sadd_parts {l ts : List ByteArray} (h : saddB l ts = true) : setB l = true ∧ okB ts = true ∧ (putsM l ts).length ≤ 16 := by
  unfold saddB at h; simp only [Bool.and_eq_true, decide_eq_true_eq] at h; exact ⟨h.1.1, h.1.2, h.2⟩
theorem sadd_set {l ts : List ByteArray} (h : saddB l ts = true) : setB (putsM l ts) = true := by
  obtain ⟨h1, h2, h3⟩ := sadd_parts h
  refine setB_of (putsM_asc ts (setB_asc h1)) h3 fun s hs => ?_
  rcases (putsM_mem s ts l).1 hs with hm | hm
  · exact (okB_facts (setB_okB h1)).2 s hm
  · exact (okB_facts h2).2 s hm
theorem puts_again {l ts : List ByteArray} (h : saddB l ts = true) : putsM (putsM l ts) ts = putsM l ts := by
  have ha := setB_asc (sadd_set h)
  refine asc_ext (putsM_asc ts ha) ha fun s => ?_
  rw [putsM_mem, putsM_mem, or_assoc, or_self]
theorem sadd_again {l ts : List ByteArray} (h : saddB l ts = true) : saddR (putsM l ts) ts = putsM l ts ∧ saddN (putsM l ts) ts = 0 ∧ saddB (putsM l ts) ts = true := by
  have hb : saddB (putsM l ts) ts = true := by
    obtain ⟨h1, h2, h3⟩ := sadd_parts h
    unfold saddB; rw [sadd_set h, h2, puts_again h]; simpa using h3
  have := sadd_yes (sadd_set h) hb
  rw [puts_again h] at this
  exact ⟨this.1, by rw [this.2.1]; omega, this.2.2⟩
theorem has_of {l : List ByteArray} {s : ByteArray} (h : s ∈ l) : hasM l s = true := hasM_iff.2 h
theorem at_mem {l : List ByteArray} {k : Nat} (h : k < l.length) : at_ l k ∈ l := by rw [at_lt h]; exact List.getElem_mem h
theorem saddR_len (l ts : List ByteArray) (h1 : l.length ≤ 1048576) : (saddR l ts).length ≤ 1048576 := by
  cases h : setB l with
  | false => rw [(sadd_none h).1]; simp
  | true =>
    cases hb : saddB l ts with
    | false => rw [(sadd_not h hb).1]; exact h1
    | true => rw [(sadd_yes h hb).1]; have := (sadd_parts hb).2.2; omega

set_option maxHeartbeats 8000000 in
theorem walk (v : Value) (zs : List Int) (w : World) (h : IsBytes w v zs) :
    Calls Try.prog 3 #[v] w fun e w' => e = .returned (.bool true) ∧ Below w.heap.size w w' := by
  have hI := h
  obtain ⟨ao, cap, rfl, hlc, hcm, hzb, hz⟩ := h
  unfold maxLen at hcm
  clear hz hzb
  rcases Int.lt_or_le (1048576 : Int) (zs.length : Int) with hx | hx
  · go_enter Try.func3, Try.ntmps3
    go_wp2_with fail
    go_ret
    exact ⟨rfl, Below.refl _ _⟩
  · go_enter Try.func3, Try.ntmps3
    go_wp2_with fail
    refine (drawSAdd_any _ zs _ hI).mono ?_
    rintro e w1 ⟨u, l, t, ts, rfl, hrl1, hrt1, hl, hlt, HB1⟩
    have hW1 := HB1.size
    clear hI
    obtain ⟨au, cu, rfl⟩ := reads_shape hrl1
    obtain ⟨at1, ct, rfl⟩ := reads_shape hrt1
    go_wp2_with fail
    refine (implSAdd_any _ _ l ts _ hrl1 hrt1 (by omega) (by omega)).mono ?_
    rintro e w2 ⟨x, rfl, ox2, hb2⟩
    have HB2 := below_stepT HB1 hb2
    have hrl2 := reads_kept hrl1 hb2
    have hrt2 := reads_kept hrt1 hb2
    clear hb2 HB1 hrl1 hrt1
    go_wp2_with fail
    refine (specSAdd_any _ _ l ts _ hrl2 hrt2 (by omega) (by omega)).mono ?_
    rintro e w3 ⟨y, rfl, oy3, hb3⟩
    have HB3 := below_stepT HB2 hb3
    have hrl3 := reads_kept hrl2 hb3
    have hrt3 := reads_kept hrt2 hb3
    have ox3 := owns_kept ox2 hb3
    have hR := saddR_len l ts (by omega)
    clear hb3 HB2 hrl2 hrt2 ox2
    cases hb : saddB l ts with
    | false =>
      generalize saddN l ts = NN
      generalize saddR l ts = RR at *
      cases hs : setB l with
      | false =>
        go_wp2_with fail
        refine (qx_true _ _ RR _ (owns_reads ox3) (owns_reads oy3) hR).mono ?_
        rintro e w4 ⟨rfl, hb4⟩
        have HB4 := below_stepT HB3 hb4
        have ox4 := owns_kept ox3 hb4
        have oy4 := owns_kept oy3 hb4
        have hrl4 := reads_kept hrl3 hb4
        have hrt4 := reads_kept hrt3 hb4
        clear hb4 HB3 ox3 oy3 hrl3 hrt3
        go_wp2_with fail
        refine (implSetOk_any _ l _ hrl4 (by omega)).mono ?_
        rw [hs]
        rintro e w5 ⟨rfl, hb5⟩
        have HB5 := below_stepT HB4 hb5
        have ox5 := owns_kept ox4 hb5
        have oy5 := owns_kept oy4 hb5
        have hrl5 := reads_kept hrl4 hb5
        have hrt5 := reads_kept hrt4 hb5
        clear hb5 HB4 ox4 oy4 hrl4 hrt4
        go_wp2_with fail
        refine (specSetOk_any _ l _ hrl5 (by omega)).mono ?_
        rw [hs]
        rintro e w6 ⟨rfl, hb6⟩
        have HB6 := below_stepT HB5 hb6
        have ox6 := owns_kept ox5 hb6
        have oy6 := owns_kept oy5 hb6
        have hrl6 := reads_kept hrl5 hb6
        have hrt6 := reads_kept hrt5 hb6
        clear hb6 HB5 ox5 oy5 hrl5 hrt5
        go_wp2_with fail
        refine (qx_true _ _ RR _ (owns_reads ox6) (owns_reads oy6) hR).mono ?_
        rintro e w7 ⟨rfl, hb7⟩
        have HB7 := below_stepT HB6 hb7
        have ox7 := owns_kept ox6 hb7
        have oy7 := owns_kept oy6 hb7
        have hrl7 := reads_kept hrl6 hb7
        have hrt7 := reads_kept hrt6 hb7
        clear hb7 HB6 ox6 oy6 hrl6 hrt6
        go_wp2_with fail
        refine (implSetOk_any _ l _ hrl7 (by omega)).mono ?_
        rw [hs]
        rintro e w8 ⟨rfl, hb8⟩
        have HB8 := below_stepT HB7 hb8
        have ox8 := owns_kept ox7 hb8
        have oy8 := owns_kept oy7 hb8
        have hrl8 := reads_kept hrl7 hb8
        have hrt8 := reads_kept hrt7 hb8
        clear hb8 HB7 ox7 oy7 hrl7 hrt7
        go_wp2_with fail
        refine (specSetOk_any _ l _ hrl8 (by omega)).mono ?_
        rw [hs]
        rintro e w9 ⟨rfl, hb9⟩
        have HB9 := below_stepT HB8 hb9
        have ox9 := owns_kept ox8 hb9
        have oy9 := owns_kept oy8 hb9
        have hrl9 := reads_kept hrl8 hb9
        have hrt9 := reads_kept hrt8 hb9
        clear hb9 HB8 ox8 oy8 hrl8 hrt8
        go_wp2_with fail
        go_ret
        exact ⟨rfl, HB9⟩
      | true =>
        go_wp2_with fail
        refine (qx_true _ _ RR _ (owns_reads ox3) (owns_reads oy3) hR).mono ?_
        rintro e w4 ⟨rfl, hb4⟩
        have HB4 := below_stepT HB3 hb4
        have ox4 := owns_kept ox3 hb4
        have oy4 := owns_kept oy3 hb4
        have hrl4 := reads_kept hrl3 hb4
        have hrt4 := reads_kept hrt3 hb4
        clear hb4 HB3 ox3 oy3 hrl3 hrt3
        go_wp2_with fail
        refine (implSetOk_any _ l _ hrl4 (by omega)).mono ?_
        rw [hs]
        rintro e w5 ⟨rfl, hb5⟩
        have HB5 := below_stepT HB4 hb5
        have ox5 := owns_kept ox4 hb5
        have oy5 := owns_kept oy4 hb5
        have hrl5 := reads_kept hrl4 hb5
        have hrt5 := reads_kept hrt4 hb5
        clear hb5 HB4 ox4 oy4 hrl4 hrt4
        go_wp2_with fail
        refine (specSetOk_any _ l _ hrl5 (by omega)).mono ?_
        rw [hs]
        rintro e w6 ⟨rfl, hb6⟩
        have HB6 := below_stepT HB5 hb6
        have ox6 := owns_kept ox5 hb6
        have oy6 := owns_kept oy5 hb6
        have hrl6 := reads_kept hrl5 hb6
        have hrt6 := reads_kept hrt5 hb6
        clear hb6 HB5 ox5 oy5 hrl5 hrt5
        go_wp2_with fail
        refine (qx_true _ _ RR _ (owns_reads ox6) (owns_reads oy6) hR).mono ?_
        rintro e w7 ⟨rfl, hb7⟩
        have HB7 := below_stepT HB6 hb7
        have ox7 := owns_kept ox6 hb7
        have oy7 := owns_kept oy6 hb7
        have hrl7 := reads_kept hrl6 hb7
        have hrt7 := reads_kept hrt6 hb7
        clear hb7 HB6 ox6 oy6 hrl6 hrt6
        go_wp2_with fail
        refine (implSetOk_any _ l _ hrl7 (by omega)).mono ?_
        rw [hs]
        rintro e w8 ⟨rfl, hb8⟩
        have HB8 := below_stepT HB7 hb8
        have ox8 := owns_kept ox7 hb8
        have oy8 := owns_kept oy7 hb8
        have hrl8 := reads_kept hrl7 hb8
        have hrt8 := reads_kept hrt7 hb8
        clear hb8 HB7 ox7 oy7 hrl7 hrt7
        go_wp2_with fail
        refine (specSetOk_any _ l _ hrl8 (by omega)).mono ?_
        rw [hs]
        rintro e w9 ⟨rfl, hb9⟩
        have HB9 := below_stepT HB8 hb9
        have ox9 := owns_kept ox8 hb9
        have oy9 := owns_kept oy8 hb9
        have hrl9 := reads_kept hrl8 hb9
        have hrt9 := reads_kept hrt8 hb9
        clear hb9 HB8 ox8 oy8 hrl8 hrt8
        go_wp2_with fail
        go_ret
        exact ⟨rfl, HB9⟩
    | true =>
      have hs := (sadd_parts hb).1
      have HYES : Hid _ := sadd_yes hs hb
      have HAG : Hid _ := sadd_again hb
      have HMEM : Hid (∀ s, s ∈ putsM l ts ↔ s ∈ l ∨ s ∈ ts) := fun s => putsM_mem s ts l
      have hP16 := (sadd_parts hb).2.2
      have HSP : Hid (setB (putsM l ts) = true) := sadd_set hb
      have hsum : wrap64 ((l.length : Int) + saddN l ts) = ((putsM l ts).length : Int) := by rw [HYES.out.2.1]; rw [show (l.length : Int) + (((putsM l ts).length : Int) - l.length) = ((putsM l ts).length : Int) by omega]; unfold wrap64; omega
      rw [HYES.out.1] at ox3 oy3 hR
      generalize saddN l ts = NN at *
      generalize putsM l ts = RR at *
      clear hb
      obtain ⟨ax, cx, hxe⟩ := reads_shape (owns_reads ox3)
      subst hxe
      go_wp2_with fail
      refine (qx_true _ _ RR _ (owns_reads ox3) (owns_reads oy3) hR).mono ?_
      rintro e w4 ⟨rfl, hb4⟩
      have HB4 := below_stepT HB3 hb4
      have ox4 := owns_kept ox3 hb4
      have oy4 := owns_kept oy3 hb4
      have hrl4 := reads_kept hrl3 hb4
      have hrt4 := reads_kept hrt3 hb4
      clear hb4 HB3 ox3 oy3 hrl3 hrt3
      go_wp2_with fail
      refine (implSetOk_any _ l _ hrl4 (by omega)).mono ?_
      rw [hs]
      rintro e w5 ⟨rfl, hb5⟩
      have HB5 := below_stepT HB4 hb5
      have ox5 := owns_kept ox4 hb5
      have oy5 := owns_kept oy4 hb5
      have hrl5 := reads_kept hrl4 hb5
      have hrt5 := reads_kept hrt4 hb5
      clear hb5 HB4 ox4 oy4 hrl4 hrt4
      go_wp2_with fail
      refine (specSetOk_any _ l _ hrl5 (by omega)).mono ?_
      rw [hs]
      rintro e w6 ⟨rfl, hb6⟩
      have HB6 := below_stepT HB5 hb6
      have ox6 := owns_kept ox5 hb6
      have oy6 := owns_kept oy5 hb6
      have hrl6 := reads_kept hrl5 hb6
      have hrt6 := reads_kept hrt5 hb6
      clear hb6 HB5 ox5 oy5 hrl5 hrt5
      go_wp2_with fail
      clear oy6
      have hrx6 := owns_reads ox6
      clear ox6
      go_loopw [11] (fun i wr => ∃ k : Nat, k ≤ ts.length ∧ i = .int .i64 (k : Int) ∧ w6 = wr) (fun i _ => ts.length - (intOf i).toNat)
      case atStart => exact ⟨0, Nat.zero_le _, rfl, rfl⟩
      case round =>
        obtain ⟨k, hk, rfl, rfl⟩ := hrel
        by_cases hlk : k < ts.length
        · have hi1 : (k : Int) < (ts.length : Int) := by omega
          obtain ⟨bl, off, rfl, hbl, hc⟩ := reads_someS hrt6 (by omega)
          have hcell := hc k hlk
          clear hc
          have hh : hasM RR (at_ ts k) = true := has_of ((HMEM.out _).2 (.inr (at_mem hlk)))
          go_wp2_with fail
          refine (qxHas_any _ RR (at_ ts k) _ hrx6 hR).mono ?_
          rw [hh]
          rintro e w7 ⟨rfl, rfl⟩
          clear hh
          go_wp2_with fail
          go_roundw
          case rel => exact ⟨k + 1, hlk, by go_num, by trivial⟩
          case measure => simp [intOf]; omega
        · have hi1 : ¬ (k : Int) < (ts.length : Int) := by omega
          go_wp2_with fail
          go_loopw [12] (fun i wr => ∃ k : Nat, k ≤ RR.length ∧ i = .int .i64 (k : Int) ∧ w6 = wr) (fun i _ => RR.length - (intOf i).toNat)
          case atStart => exact ⟨0, Nat.zero_le _, rfl, rfl⟩
          case round =>
            obtain ⟨j, hj, rfl, rfl⟩ := hrel
            by_cases hjk : j < RR.length
            · have hi2 : (j : Int) < (RR.length : Int) := by omega
              obtain ⟨bl, off, rfl, hbl, hc⟩ := reads_someS hrx6 (by omega)
              have hcell := hc j hjk
              clear hc
              cases hh : hasM l (at_ RR j) with
              | true =>
                go_wp2_with fail
                refine (qxHas_any _ l (at_ RR j) _ hrl6 (by omega)).mono ?_
                rw [hh]
                rintro e w7 ⟨rfl, rfl⟩
                clear hh
                go_wp2_with fail
                go_roundw
                case rel => exact ⟨j + 1, hjk, by go_num, by trivial⟩
                case measure => simp [intOf]; omega
              | false =>
                have hh2 : hasM ts (at_ RR j) = true := by
                  rcases (HMEM.out _).1 (at_mem hjk) with hm | hm
                  · rw [has_of hm] at hh; cases hh
                  · exact has_of hm
                go_wp2_with fail
                refine (qxHas_any _ l (at_ RR j) _ hrl6 (by omega)).mono ?_
                rw [hh]
                rintro e w7 ⟨rfl, rfl⟩
                clear hh
                go_wp2_with fail
                refine (qxHas_any _ ts (at_ RR j) _ hrt6 (by omega)).mono ?_
                rw [hh2]
                rintro e w7 ⟨rfl, rfl⟩
                clear hh2
                go_wp2_with fail
                go_roundw
                case rel => exact ⟨j + 1, hjk, by go_num, by trivial⟩
                case measure => simp [intOf]; omega
            · have hi2 : ¬ (j : Int) < (RR.length : Int) := by omega
              go_wp2_with fail
              refine (implSAdd_any _ _ RR ts _ hrx6 hrt6 hR (by omega)).mono ?_
              rw [HAG.out.1, HAG.out.2.1, HAG.out.2.2]
              rintro e w7 ⟨x7, rfl, ox7, hb7⟩
              have HB7 := below_stepT HB6 hb7
              have hrx7 := reads_kept hrx6 hb7
              clear hb7 HB6 hrx6
              go_wp2_with fail
              refine (implSetOk_any _ RR _ hrx7 hR).mono ?_
              rw [HSP.out]
              rintro e w8 ⟨rfl, hb8⟩
              have HB8 := below_stepT HB7 hb8
              have hrx8 := reads_kept hrx7 hb8
              have ox8 := owns_kept ox7 hb8
              clear hb8 HB7 hrx7 ox7
              go_wp2_with fail
              refine (qx_true _ _ RR _ (owns_reads ox8) hrx8 hR).mono ?_
              rintro e w9 ⟨rfl, hb9⟩
              have HB9 := below_stepT HB8 hb9
              clear hb9
              go_wp2_with fail
              go_ret
              exact ⟨rfl, HB9⟩

set_option maxRecDepth 100000 in
theorem lifted (os : Os) (started : os.Started) (H : Type) (enc : TypeId × Value → H) :
    ReturnsInHanded {} Try.checked os 3 .any (Rows.fnSetAddSpec.pre6 enc Try.prog Try.f3 Rows.fnSetAddRow.domain false) (Rows.fnSetAddSpec.post enc Try.prog Try.f3 false true false false) := by
  refine returnsInHanded_of_change (C := Try.checked) own started (by kernel_rfl) Try.func3
    (ChangeSpec.witness6 (enc := enc) (C := Try.checked) false ⟨#[], #[.slice none 0 0], []⟩ 8 (by kernel_rfl) (by kernel_rfl) (by kernel_rfl) (by kernel_rfl)) ?_
  intro W base args ds gs before hval0 hW hcnd _
  have hval : ∀ (j : Nat) t v, Try.f3.params[j]? = some t → args[j]? = some v → Value.okWide Try.prog W .any base t v := hval0
  have hW' := hW
  obtain ⟨p, q, hA0, hV, rfl, hfz, hnd⟩ := hW
  have hA : DataW.TrodAll enc Try.prog W 0 (fun _ => true) true Try.f3.params.toList args.toList ds p := hA0
  rw [Try.params3] at hA hval
  obtain ⟨v0, vs0, d0, ds0, p0, q0, hargs, rfl, rfl, h0, r0⟩ := trodAll_cons hA
  obtain ⟨rfl, rfl, rfl⟩ := trodAll_nil r0
  obtain rfl : args = #[v0] := by cases args; simp_all
  obtain ⟨rfl, rfl⟩ := trodVars_none hV
  obtain ⟨a0, len0, cap0, rfl⟩ := okWide_slice Try.underlying22 (hval 0 22 v0 rfl rfl)
  have k0 := h0
  have lt0 : ∀ x ∈ p0, x.block < W.heap.size := by obtain ⟨m, hm⟩ := k0; exact DataW.trod_lt m _ _ _ hm
  obtain ⟨z0, w0⟩ : ∃ zs, IsBytes W (.slice a0 len0 cap0) zs := by
    obtain ⟨fuel, hf⟩ := h0
    rcases open_ints Try.underlying22 Try.underlying5 (by kernel_rfl) hf with ⟨hcs, _⟩ | ⟨x, ln, cp, zs, hcs, _, hl, hm, hz, _, hcell, hwz⟩
    · exact bytes_of_none (by simpa [Value.cells] using hcs)
    · exact bytes_of_some (by simpa [Value.cells] using hcs) hl hm (by simpa using hz) hcell hwz
  clear hA0 hval0
  refine (walk (.slice a0 len0 cap0) z0 W w0).mono fun e W' ⟨he, bel⟩ => ?_
  subst he
  exact ⟨_, rfl, _, _, _, [], _, [], hW', trodAll_mk1 (shut_bool Try.underlying4 _), (trodAll_cons_mk (Below.trod laidOut (by kernel_rfl) (of_decide_eq_true (by kernel_rfl)) k0 bel lt0) trodAll_mk0), rfl, bel.frame _, fun h => by cases h⟩

theorem over : Rows.fnSetAddRow.holds Try.pinned (OpenSpec.ofChange Rows.fnSetAddSpec) :=
  OpenClaim.holds_of_wide 3 Try.f3 rfl rfl rfl rfl rfl rfl rfl ⟨rfl, rfl, rfl, rfl, rfl⟩ rfl rfl rfl rfl rfl (by kernel_rfl) Try.func3 (by kernel_rfl)
    (of_decide_eq_true (by kernel_rfl)) (by unfold Func.isWrapper; first | (rw [if_pos (by decide +kernel)]; kernel_rfl) | (rw [if_neg (by decide +kernel)]; exact ⟨rfl, rfl⟩))
    (fun os started H enc _ => lifted os started H enc)

theorem proved : Rows.FnSetAddSaid := over
end Go.Proofs.Ytlgchkmgbjcboaa.fnSetAdd
