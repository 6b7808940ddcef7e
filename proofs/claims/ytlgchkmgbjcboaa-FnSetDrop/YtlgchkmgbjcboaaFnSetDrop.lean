/- Proved: of every drawn set and texts, what was taken away is not there, all else is, and just as many as told are gone; SetDrop answers as its model. No condition. -/
import Derived.Test.YtlgchkmgbjcboaaDrawS
import Derived.Test.YtlgchkmgbjcboaaQx
import Derived.Test.YtlgchkmgbjcboaaQxH
import Derived.Deep.QuietTactic
import Derived.ProofKit
import Derived.OpenShut
import Derived.ShutString
import Derived.ChangeOld
import Derived.Below
import Derived.Deep.RegionWith
namespace Go.Proofs.Ytlgchkmgbjcboaa.fnSetDrop
open Go.ChangeShapes Go.WideShapes Go.ChangeAt Go.RowKit
open Go.ChangeMaps (open_string shut_string)
set_option linter.unusedVariables false

theorem own : ownKnob Try.prog.godebug = none := by kernel_rfl
theorem laidOut : laidOutB Try.prog = true := by kernel_rfl

theorem at_mem {l : List ByteArray} {k : Nat} (h : k < l.length) : at_ l k ∈ l := by rw [at_lt h]; exact List.getElem_mem h
theorem setB_okB {a : List ByteArray} (h : setB a = true) : okB a = true := by unfold setB at h; rw [Bool.and_eq_true] at h; exact h.2
theorem less_set {l : List ByteArray} (ts : List ByteArray) (h : setB l = true) : setB (lessM l ts) = true := by
  refine setB_of (filt_asc (setB_asc h) _) (lessM_len16 ts h) fun s hs => ?_
  unfold lessM at hs
  exact (okB_facts (setB_okB h)).2 s (List.mem_filter.1 hs).1
theorem has_less {l : List ByteArray} (ts : List ByteArray) {k : Nat} (h : k < l.length) : hasM (lessM l ts) (at_ l k) = !hasM ts (at_ l k) := by
  cases hh : hasM ts (at_ l k) with
  | true =>
    cases h2 : hasM (lessM l ts) (at_ l k) with
    | false => rfl
    | true =>
      have := hasM_iff.1 h2
      unfold lessM at this
      have := (List.mem_filter.1 this).2
      rw [hh] at this; cases this
  | false =>
    refine hasM_iff.2 ?_
    unfold lessM
    exact List.mem_filter.2 ⟨at_mem h, by rw [hh]; rfl⟩
theorem reads_drewN {w : World} {v : Value} {l : List ByteArray} (h : Reads w v l) (k : Nat) : Reads (w.drewN k) v l := reads_kept h ⟨rfl, rfl, rfl, Nat.le_refl _, fun _ _ => rfl⟩
theorem has_quiet (v : Value) (l : List ByteArray) (s : ByteArray) (b : Bool) (w : World) (k : Nat) (hr : Reads w v l) (hlen : l.length ≤ 1048576) (hb : hasM l s = b) :
    Calls Try.prog 18 #[v, .string s] (w.drewN k) fun e w'' => e = .returned (.bool b) ∧ ∃ m, w'' = w.drewN m :=
  (qxHas_any v l s (w.drewN k) (reads_drewN hr k) hlen).mono fun e w'' ⟨h1, h2⟩ => ⟨by rw [h1, hb], k, h2.symm⟩

set_option maxHeartbeats 8000000 in
theorem walk (v : Value) (zs : List Int) (w : World) (h : IsBytes w v zs) :
    Calls Try.prog 4 #[v] w fun e w' => e = .returned (.bool true) ∧ Below w.heap.size w w' := by
  have hI := h
  obtain ⟨ao, cap, rfl, hlc, hcm, hzb, hz⟩ := h
  unfold maxLen at hcm
  clear hz hzb
  rcases Int.lt_or_le (1048576 : Int) (zs.length : Int) with hx | hx
  · go_enter Try.func4, Try.ntmps4
    go_wp2_with fail
    go_ret
    exact ⟨rfl, Below.refl _ _⟩
  · go_enter Try.func4, Try.ntmps4
    go_wp2_with fail
    refine (drawSDrop_any _ zs _ hI).mono ?_
    rintro e w1 ⟨u, l, t, ts, rfl, hrl1, hrt1, hl, hlt, HB1⟩
    have hW1 := HB1.size
    clear hI
    obtain ⟨au, cu, rfl⟩ := reads_shape hrl1
    obtain ⟨at1, ct, rfl⟩ := reads_shape hrt1
    go_wp2_with fail
    refine (implSDrop_any _ _ l ts _ hrl1 hrt1 (by omega) (by omega)).mono ?_
    rintro e w2 ⟨x, rfl, ox2, hb2⟩
    have HB2 := below_stepT HB1 hb2
    have hrl2 := reads_kept hrl1 hb2
    have hrt2 := reads_kept hrt1 hb2
    clear hb2 HB1 hrl1 hrt1
    go_wp2_with fail
    refine (specSDrop_any _ _ l ts _ hrl2 hrt2 (by omega) (by omega)).mono ?_
    rintro e w3 ⟨y, rfl, oy3, hb3⟩
    have HB3 := below_stepT HB2 hb3
    have hrl3 := reads_kept hrl2 hb3
    have hrt3 := reads_kept hrt2 hb3
    have ox3 := owns_kept ox2 hb3
    have hR : (sdropR l ts).length ≤ 1048576 := by
      unfold sdropR; split
      · have := lessM_len l ts; omega
      · simp
    clear hb3 HB2 hrl2 hrt2 ox2
    cases hs : setB l with
    | false =>
      generalize sdropN l ts = NN
      generalize sdropR l ts = RR at *
      go_wp2_with fail
      refine (qx_true _ _ RR _ (owns_reads ox3) (owns_reads oy3) hR).mono ?_
      rintro e w4 ⟨rfl, hb4⟩
      have HB4 := below_stepT HB3 hb4
      have ox4 := owns_kept ox3 hb4
      have oy4 := owns_kept oy3 hb4
      have hrl4 := reads_kept hrl3 hb4
      have hrt4 := reads_kept hrt3 hb4
      clear hb4 HB3 ox3 oy3 hrl3 hrt3
      go_wp2_with fail
      refine (specSetOk_any _ l _ hrl4 (by omega)).mono ?_
      rw [hs]
      rintro e w5 ⟨rfl, hb5⟩
      have HB5 := below_stepT HB4 hb5
      have ox5 := owns_kept ox4 hb5
      have oy5 := owns_kept oy4 hb5
      have hrl5 := reads_kept hrl4 hb5
      have hrt5 := reads_kept hrt4 hb5
      clear hb5 HB4 ox4 oy4 hrl4 hrt4
      go_wp2_with fail
      refine (qx_true _ _ RR _ (owns_reads ox5) (owns_reads oy5) hR).mono ?_
      rintro e w6 ⟨rfl, hb6⟩
      have HB6 := below_stepT HB5 hb6
      have ox6 := owns_kept ox5 hb6
      have oy6 := owns_kept oy5 hb6
      have hrl6 := reads_kept hrl5 hb6
      have hrt6 := reads_kept hrt5 hb6
      clear hb6 HB5 ox5 oy5 hrl5 hrt5
      go_wp2_with fail
      go_ret
      exact ⟨rfl, HB6⟩
    | true =>
      have HYES : Hid (sdropR l ts = lessM l ts ∧ sdropN l ts = (l.length : Int) - (lessM l ts).length) := by show _ ∧ _; unfold sdropR sdropN; rw [hs]; exact ⟨rfl, rfl⟩
      have HSP : Hid (setB (lessM l ts) = true) := less_set ts hs
      have HHAS : Hid (∀ k, k < l.length → hasM (lessM l ts) (at_ l k) = !hasM ts (at_ l k)) := fun k hk => has_less ts hk
      have hl16 := lessM_len l ts
      have hsum : wrap64 (((lessM l ts).length : Int) + sdropN l ts) = (l.length : Int) := by rw [HYES.out.2]; rw [show ((lessM l ts).length : Int) + ((l.length : Int) - ((lessM l ts).length : Int)) = (l.length : Int) by omega]; unfold wrap64; omega
      rw [HYES.out.1] at ox3 oy3 hR
      generalize sdropN l ts = NN at *
      generalize lessM l ts = RR at *
      obtain ⟨ax, cx, hxe⟩ := reads_shape (owns_reads ox3)
      subst hxe
      go_wp2_with fail
      refine (qx_true _ _ RR _ (owns_reads ox3) (owns_reads oy3) hR).mono ?_
      rintro e w4 ⟨rfl, hb4⟩
      have HB4 := below_stepT HB3 hb4
      have ox4 := owns_kept ox3 hb4
      have oy4 := owns_kept oy3 hb4
      have hrl4 := reads_kept hrl3 hb4
      have hrt4 := reads_kept hrt3 hb4
      clear hb4 HB3 ox3 oy3 hrl3 hrt3
      go_wp2_with fail
      refine (specSetOk_any _ l _ hrl4 (by omega)).mono ?_
      rw [hs]
      rintro e w5 ⟨rfl, hb5⟩
      have HB5 := below_stepT HB4 hb5
      have ox5 := owns_kept ox4 hb5
      have oy5 := owns_kept oy4 hb5
      have hrl5 := reads_kept hrl4 hb5
      have hrt5 := reads_kept hrt4 hb5
      clear hb5 HB4 ox4 oy4 hrl4 hrt4
      go_wp2_with fail
      clear oy5
      have hrx5 := owns_reads ox5
      clear ox5
      go_loopw [9] (fun i wr => ∃ k : Nat, k ≤ l.length ∧ i = .int .i64 (k : Int) ∧ Below w5.heap.size w5 wr) (fun i _ => l.length - (intOf i).toNat)
      case atStart => exact ⟨0, Nat.zero_le _, rfl, Below.refl _ _⟩
      case round =>
        obtain ⟨k, hk, rfl, hB⟩ := hrel
        have hrx := reads_kept hrx5 hB
        have hrl := reads_kept hrl5 hB
        have hrt := reads_kept hrt5 hB
        by_cases hlk : k < l.length
        · have hi1 : (k : Int) < (l.length : Int) := by omega
          obtain ⟨bl, off, hbo, hbl, hc⟩ := reads_someS hrl (by omega)
          subst hbo
          have hcell := hc k hlk
          clear hc
          have hq := HHAS.out k hlk
          cases hh : hasM ts (at_ l k) with
          | true =>
            rw [hh] at hq
            have hq' : hasM RR (at_ l k) = false := hq
            have HQ : Hid (hasM RR (at_ l k) = false) := hq'
            have HH : Hid (hasM ts (at_ l k) = true) := hh
            clear hq hh hq'
            go_wp2_with fail
            go_quiet (first | (go_at_call_of 18 (Value.slice ax RR.length cx); exact has_quiet _ RR _ _ _ _ hrx hR HQ.out) | (go_at_call_of 18 (Value.slice at1 ts.length ct); exact has_quiet _ ts _ _ _ _ hrt (by omega) HH.out))
            generalize hwq : World.drewN _ _ = w6
            have hB6 : Below w5.heap.size w5 w6 := by rw [← hwq]; exact ⟨hB.os, hB.tape, hB.output, hB.size, hB.block⟩
            clear hwq
            go_wp2_with fail
            go_roundw
            case rel => exact ⟨k + 1, hlk, by go_num, hB6⟩
            case measure => simp [intOf]; omega
          | false =>
            rw [hh] at hq
            have hq' : hasM RR (at_ l k) = true := hq
            have HQ : Hid (hasM RR (at_ l k) = true) := hq'
            have HH : Hid (hasM ts (at_ l k) = false) := hh
            clear hq hh hq'
            go_wp2_with fail
            go_quiet (first | (go_at_call_of 18 (Value.slice ax RR.length cx); exact has_quiet _ RR _ _ _ _ hrx hR HQ.out) | (go_at_call_of 18 (Value.slice at1 ts.length ct); exact has_quiet _ ts _ _ _ _ hrt (by omega) HH.out))
            generalize hwq : World.drewN _ _ = w6
            have hB6 : Below w5.heap.size w5 w6 := by rw [← hwq]; exact ⟨hB.os, hB.tape, hB.output, hB.size, hB.block⟩
            clear hwq
            go_wp2_with fail
            go_roundw
            case rel => exact ⟨k + 1, hlk, by go_num, hB6⟩
            case measure => simp [intOf]; omega
        · have hi1 : ¬ (k : Int) < (l.length : Int) := by omega
          have HB6 := below_stepT HB5 hB
          go_wp2_with fail
          refine (implSetOk_any _ RR _ hrx hR).mono ?_
          rw [HSP.out]
          rintro e w8 ⟨rfl, hb8⟩
          have HB8 := below_stepT HB6 hb8
          clear hb8
          go_wp2_with fail
          go_ret
          exact ⟨rfl, HB8⟩

set_option maxRecDepth 100000 in
theorem lifted (os : Os) (started : os.Started) (H : Type) (enc : TypeId × Value → H) :
    ReturnsInHanded {} Try.checked os 4 .any (Rows.fnSetDropSpec.pre6 enc Try.prog Try.f4 Rows.fnSetDropRow.domain false) (Rows.fnSetDropSpec.post enc Try.prog Try.f4 false true false false) := by
  refine returnsInHanded_of_change (C := Try.checked) own started (by kernel_rfl) Try.func4
    (ChangeSpec.witness6 (enc := enc) (C := Try.checked) false ⟨#[], #[.slice none 0 0], []⟩ 8 (by kernel_rfl) (by kernel_rfl) (by kernel_rfl) (by kernel_rfl)) ?_
  intro W base args ds gs before hval0 hW hcnd _
  have hval : ∀ (j : Nat) t v, Try.f4.params[j]? = some t → args[j]? = some v → Value.okWide Try.prog W .any base t v := hval0
  have hW' := hW
  obtain ⟨p, q, hA0, hV, rfl, hfz, hnd⟩ := hW
  have hA : DataW.TrodAll enc Try.prog W 0 (fun _ => true) true Try.f4.params.toList args.toList ds p := hA0
  rw [Try.params4] at hA hval
  obtain ⟨v0, vs0, d0, ds0, p0, q0, hargs, rfl, rfl, h0, r0⟩ := trodAll_cons hA
  obtain ⟨rfl, rfl, rfl⟩ := trodAll_nil r0
  obtain rfl : args = #[v0] := by cases args; simp_all
  obtain ⟨rfl, rfl⟩ := trodVars_none hV
  obtain ⟨a0, len0, cap0, rfl⟩ := okWide_slice Try.underlying22 (hval 0 22 v0 rfl rfl)
  have k0 := h0
  have lt0 : ∀ x ∈ p0, x.block < W.heap.size := by obtain ⟨m, hm⟩ := k0; exact DataW.trod_lt m _ _ _ hm
  obtain ⟨z0, w0⟩ : ∃ zs, IsBytes W (.slice a0 len0 cap0) zs := by
    obtain ⟨fuel, hf⟩ := h0
    rcases open_ints Try.underlying22 Try.underlying5 (by kernel_rfl) hf with ⟨hcs, _⟩ | ⟨x, ln, cp, zs, hcs, _, hl, hm, hz, _, hcell, hwz⟩
    · exact bytes_of_none (by simpa [Value.cells] using hcs)
    · exact bytes_of_some (by simpa [Value.cells] using hcs) hl hm (by simpa using hz) hcell hwz
  clear hA0 hval0
  refine (walk (.slice a0 len0 cap0) z0 W w0).mono fun e W' ⟨he, bel⟩ => ?_
  subst he
  exact ⟨_, rfl, _, _, _, [], _, [], hW', trodAll_mk1 (shut_bool Try.underlying4 _), (trodAll_cons_mk (Below.trod laidOut (by kernel_rfl) (of_decide_eq_true (by kernel_rfl)) k0 bel lt0) trodAll_mk0), rfl, bel.frame _, fun h => by cases h⟩

theorem over : Rows.fnSetDropRow.holds Try.pinned (OpenSpec.ofChange Rows.fnSetDropSpec) :=
  OpenClaim.holds_of_wide 4 Try.f4 rfl rfl rfl rfl rfl rfl rfl ⟨rfl, rfl, rfl, rfl, rfl⟩ rfl rfl rfl rfl rfl (by kernel_rfl) Try.func4 (by kernel_rfl)
    (of_decide_eq_true (by kernel_rfl)) (by unfold Func.isWrapper; first | (rw [if_pos (by decide +kernel)]; kernel_rfl) | (rw [if_neg (by decide +kernel)]; exact ⟨rfl, rfl⟩))
    (fun os started H enc _ => lifted os started H enc)

theorem proved : Rows.FnSetDropSaid := over
end Go.Proofs.Ytlgchkmgbjcboaa.fnSetDrop
