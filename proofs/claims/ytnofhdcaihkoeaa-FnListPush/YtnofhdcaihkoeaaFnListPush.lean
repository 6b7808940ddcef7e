/- Proved: of every drawn list, end and texts, what is put at an end is taken from it, the last first, and then the list is as it was; ListPush answers as its model. No condition. -/
import Derived.Test.YtnofhdcaihkoeaaPopA
import Derived.Test.YtnofhdcaihkoeaaPushI
import Derived.Test.YtnofhdcaihkoeaaQx
import Derived.Test.YtnofhdcaihkoeaaDrawC
import Derived.ProofKit
import Derived.OpenShut
import Derived.ShutString
import Derived.ChangeOld
import Derived.Below
import Derived.Deep.RegionWith
namespace Go.Proofs.Ytnofhdcaihkoeaa.fnListPush
open Go.ChangeShapes Go.WideShapes Go.ChangeAt Go.RowKit
open Go.ChangeMaps (open_string shut_string)
set_option linter.unusedVariables false

theorem own : ownKnob Try.prog.godebug = none := by kernel_rfl
theorem laidOut : laidOutB Try.prog = true := by kernel_rfl

theorem okB_parts {l : List ByteArray} (h : okB l = true) : l.length ≤ 16 ∧ short l = true := by
  unfold okB at h; simpa using h
theorem okB_mk {l : List ByteArray} (h1 : l.length ≤ 16) (h2 : short l = true) : okB l = true := by unfold okB; simp [h1, h2]
theorem pushed_ok {l ts : List ByteArray} {front : Bool} (h : pushB l ts = true) (k : Nat) : okB (pushed l front (ts.take k)) = true := by
  unfold pushB at h
  simp only [Bool.and_eq_true, decide_eq_true_eq] at h
  obtain ⟨_, h1⟩ := okB_parts h.1.1
  obtain ⟨_, h2⟩ := okB_parts h.1.2
  refine okB_mk (by rw [pushed_len]; simp; omega) ?_
  unfold short at *
  rw [List.all_eq_true] at *
  intro s hs
  have : s ∈ l ∨ s ∈ ts.take k := by cases front <;> simpa [pushed, or_comm] using hs
  rcases this with h' | h'
  · exact h1 s h'
  · exact h2 s (List.mem_of_mem_take h')
theorem pop_pushed (l : List ByteArray) (front : Bool) (a : List ByteArray) (s : ByteArray) : popT (pushed l front (a ++ [s])) front = s ∧ popL (pushed l front (a ++ [s])) front = pushed l front a := by
  cases front
  · have e : pushed l false (a ++ [s]) = pushed l false a ++ [s] := by simp [pushed]
    rw [e]
    refine ⟨?_, by simp [popL]⟩
    show at_ (pushed l false a ++ [s]) ((pushed l false a ++ [s]).length - 1) = s
    rw [at_lt (by simp)]; simp
  · have e : pushed l true (a ++ [s]) = s :: pushed l true a := by simp [pushed]
    rw [e]
    exact ⟨rfl, rfl⟩

set_option maxHeartbeats 8000000 in
theorem walk (v : Value) (zs : List Int) (w : World) (h : IsBytes w v zs) :
    Calls Try.prog 10 #[v] w fun e w' => e = .returned (.bool true) ∧ Below w.heap.size w w' := by
  have hI := h
  obtain ⟨ao, cap, rfl, hlc, hcm, hzb, hz⟩ := h
  unfold maxLen at hcm
  clear hz hzb
  rcases Int.lt_or_le (1048576 : Int) (zs.length : Int) with hx | hx
  · go_enter Try.func10, Try.ntmps10
    go_wp2_with fail
    go_ret
    exact ⟨rfl, Below.refl _ _⟩
  · go_enter Try.func10, Try.ntmps10
    go_wp2_with fail
    refine (drawPush_any _ zs _ hI).mono ?_
    rintro e w1 ⟨u, l, f, t, ts, mid, rfl, ho1, hlow, ht1, hmid, hl, hlt, hs, hst, HB1⟩
    have hW1 := HB1.size
    have hrl1 := owns_reads ho1
    have hrt1 := owns_reads ht1
    clear hI ho1 hs hst ht1 hlow
    go_wp2_with fail
    refine (implPush_any u t l ts f _ hrl1 hrt1 (by omega) (by omega)).mono ?_
    rintro e w2 ⟨x, rfl, ox2, hb2⟩
    have HB2 := below_step HB1 hW1 hb2
    have hW2 := HB2.size
    have hrl2 := reads_kept hrl1 hb2
    have hrt2 := reads_kept hrt1 hb2
    clear hb2 HB1 hrl1 hrt1
    go_wp2_with fail
    refine (specPush_any u t l ts f _ hrl2 hrt2 (by omega) (by omega)).mono ?_
    rintro e w3 ⟨y, rfl, oy3, hb3⟩
    have HB3 := below_step HB2 hW2 hb3
    have hW3 := HB3.size
    have hrl3 := reads_kept hrl2 hb3
    have hrt3 := reads_kept hrt2 hb3
    have ox3 := owns_kept ox2 hb3
    have hR := pushR_len l f ts (by omega)
    clear hb3 HB2 hrl2 hrt2 ox2
    cases hb : pushB l ts with
    | false =>
      go_wp2_with fail
      refine (qx_true x y (pushR l f ts) _ (owns_reads ox3) (owns_reads oy3) hR).mono ?_
      rintro e w4 ⟨rfl, hb4⟩
      have HB4 := below_step HB3 hW3 hb4
      have hW4 := HB4.size
      have ox4 := owns_kept ox3 hb4
      have oy4 := owns_kept oy3 hb4
      clear hb4 HB3 ox3 oy3
      go_wp2_with fail
      refine (qx_true x y (pushR l f ts) _ (owns_reads ox4) (owns_reads oy4) hR).mono ?_
      rintro e w5 ⟨rfl, hb5⟩
      have HB5 := below_step HB4 hW4 hb5
      go_wp2_with fail
      go_ret
      exact ⟨rfl, HB5⟩
    | true =>
      have hokl : okB l = true := by unfold pushB at hb; simp only [Bool.and_eq_true] at hb; exact hb.1.1
      have HPR : Hid (pushR l f ts = pushed l f ts) := by show _ = _; unfold pushR; rw [hokl, hb]; rfl
      have HPB : Hid (pushB l ts = true) := hb
      clear hokl
      go_wp2_with fail
      refine (qx_true x y (pushR l f ts) _ (owns_reads ox3) (owns_reads oy3) hR).mono ?_
      rintro e w4 ⟨rfl, hb4⟩
      have HB4 := below_step HB3 hW3 hb4
      have hW4 := HB4.size
      have hrx4 : Reads w4 x (pushed l f ts) := by rw [← HPR.out]; exact owns_reads (owns_kept ox3 hb4)
      have hrl4 := reads_kept hrl3 hb4
      have hrt4 := reads_kept hrt3 hb4
      clear hb4 HB3 ox3 oy3 hrl3 hrt3 hb
      obtain ⟨at4, ct4, hts⟩ := reads_shape hrt4
      subst hts
      go_wp2_with fail
      go_loopw [6, 10, 11, 12, 13] (fun x i _ _ _ wr => ∃ k : Nat, k ≤ ts.length ∧ i = .int .i64 ((k : Int) - 1) ∧ Reads wr x (pushed l f (ts.take k)) ∧ Below w4.heap.size w4 wr) (fun _ i _ _ _ _ => (intOf i + 1).toNat)
      case atStart => exact ⟨ts.length, Nat.le_refl _, rfl, by rw [List.take_length]; exact hrx4, Below.refl _ _⟩
      case round =>
        obtain ⟨k, hk, rfl, hrx, hB⟩ := hrel
        have hBW := HB4.trans (hB.mono hW4)
        have hBWs := hBW.size
        clear hrx4
        by_cases h0 : 0 < k
        · obtain ⟨j, rfl⟩ : ∃ j, k = j + 1 := ⟨k - 1, by omega⟩
          have ej : (((j + 1 : Nat) : Int) - 1) = (j : Int) := by omega
          rw [ej]
          have hps := pop_pushed l f (ts.take j) (at_ ts j)
          have eT : ts.take j ++ [at_ ts j] = ts.take (j + 1) := by rw [List.take_succ_eq_append_getElem hk, at_lt hk]
          rw [eT] at hps
          have hpl : (pushed l f (ts.take (j + 1))).length ≤ 1048576 := by rw [pushed_len]; simp; omega
          have hpb : popBB (pushed l f (ts.take (j + 1))) = true := by
            unfold popBB; rw [pushed_ok HPB.out, pushed_len]; simp; omega
          have hX : popXX (pushed l f (ts.take (j + 1))) f = at_ ts j := by unfold popXX; rw [hpb]; exact hps.1
          have hRR : popRR (pushed l f (ts.take (j + 1))) f = pushed l f (ts.take j) := by unfold popRR; rw [hpb]; exact hps.2
          clear hps eT ej
          go_wp2_with fail
          refine (implPop_all _ (pushed l f (ts.take (j + 1))) f _ hrx hpl).mono ?_
          rw [hX, hRR, hpb]
          rintro e w5 ⟨x5, rfl, ox5, hb5⟩
          have hB5 := hB.trans (hb5.mono hB.size)
          have hrt5 := reads_kept hrt4 hB5
          obtain ⟨b, off, hat, hbb, hct⟩ := reads_some hrt5 (by omega)
          subst hat
          have hcell := hct j hk
          have hlt3 : (j : Int) < (ts.length : Int) := by omega
          have hne := ne_self (at_ ts j)
          have hr5 := own_reads ox5
          clear hX hRR hpb hpl hrx hb5 hB hct hrt5 hBW hBWs
          go_wp2_with fail
          go_roundw
          case rel => exact ⟨j, by omega, rfl, hr5, hB5⟩
          case measure => simp [intOf]
        · obtain rfl : k = 0 := by omega
          rw [List.take_zero, pushed_nil] at hrx
          have hrl5 := reads_kept hrl4 hB
          go_wp2_with fail
          refine (qx_true _ _ l _ hrx hrl5 (by omega)).mono ?_
          rintro e w7 ⟨rfl, hb7⟩
          have HB7 := below_step hBW hBWs hb7
          clear hb7
          go_wp2_with fail
          go_ret
          exact ⟨rfl, HB7⟩

set_option maxRecDepth 100000 in
theorem lifted (os : Os) (started : os.Started) (H : Type) (enc : TypeId × Value → H) :
    ReturnsInHanded {} Try.checked os 10 .any (Rows.fnListPushSpec.pre6 enc Try.prog Try.f10 Rows.fnListPushRow.domain false) (Rows.fnListPushSpec.post enc Try.prog Try.f10 false true false false) := by
  refine returnsInHanded_of_change (C := Try.checked) own started (by kernel_rfl) Try.func10
    (ChangeSpec.witness6 (enc := enc) (C := Try.checked) false ⟨#[], #[.slice none 0 0], []⟩ 8 (by kernel_rfl) (by kernel_rfl) (by kernel_rfl) (by kernel_rfl)) ?_
  intro W base args ds gs before hval0 hW hcnd _
  have hval : ∀ (j : Nat) t v, Try.f10.params[j]? = some t → args[j]? = some v → Value.okWide Try.prog W .any base t v := hval0
  have hW' := hW
  obtain ⟨p, q, hA0, hV, rfl, hfz, hnd⟩ := hW
  have hA : DataW.TrodAll enc Try.prog W 0 (fun _ => true) true Try.f10.params.toList args.toList ds p := hA0
  rw [Try.params10] at hA hval
  obtain ⟨v0, vs0, d0, ds0, p0, q0, hargs, rfl, rfl, h0, r0⟩ := trodAll_cons hA
  obtain ⟨rfl, rfl, rfl⟩ := trodAll_nil r0
  obtain rfl : args = #[v0] := by cases args; simp_all
  obtain ⟨rfl, rfl⟩ := trodVars_none hV
  obtain ⟨a0, len0, cap0, rfl⟩ := okWide_slice Try.underlying39 (hval 0 39 v0 rfl rfl)
  have k0 := h0
  have lt0 : ∀ x ∈ p0, x.block < W.heap.size := by obtain ⟨m, hm⟩ := k0; exact DataW.trod_lt m _ _ _ hm
  obtain ⟨z0, w0⟩ : ∃ zs, IsBytes W (.slice a0 len0 cap0) zs := by
    obtain ⟨fuel, hf⟩ := h0
    rcases open_ints Try.underlying39 Try.underlying5 (by kernel_rfl) hf with ⟨hcs, _⟩ | ⟨x, ln, cp, zs, hcs, _, hl, hm, hz, _, hcell, hwz⟩
    · exact bytes_of_none (by simpa [Value.cells] using hcs)
    · exact bytes_of_some (by simpa [Value.cells] using hcs) hl hm (by simpa using hz) hcell hwz
  clear hA0 hval0
  refine (walk (.slice a0 len0 cap0) z0 W w0).mono fun e W' ⟨he, bel⟩ => ?_
  subst he
  exact ⟨_, rfl, _, _, _, [], _, [], hW', trodAll_mk1 (shut_bool Try.underlying4 _), (trodAll_cons_mk (Below.trod laidOut (by kernel_rfl) (of_decide_eq_true (by kernel_rfl)) k0 bel lt0) trodAll_mk0), rfl, bel.frame _, fun h => by cases h⟩

theorem over : Rows.fnListPushRow.holds Try.pinned (OpenSpec.ofChange Rows.fnListPushSpec) :=
  OpenClaim.holds_of_wide 10 Try.f10 rfl rfl rfl rfl rfl rfl rfl ⟨rfl, rfl, rfl, rfl, rfl⟩ rfl rfl rfl rfl rfl (by kernel_rfl) Try.func10 (by kernel_rfl)
    (of_decide_eq_true (by kernel_rfl)) (by unfold Func.isWrapper; first | (rw [if_pos (by decide +kernel)]; kernel_rfl) | (rw [if_neg (by decide +kernel)]; exact ⟨rfl, rfl⟩))
    (fun os started H enc _ => lifted os started H enc)

theorem proved : Rows.FnListPushSaid := over
end Go.Proofs.Ytnofhdcaihkoeaa.fnListPush
