/- Proved: of every drawn list and text, the place that ListAt tells has the text, and none ahead does; ListAt answers as its model. No condition. -/
import Derived.Test.YtfcnhdaefleelaaDrM
import Derived.Test.YtfcnhdaefleelaaAtI
import Derived.Test.YtfcnhdaefleelaaCopyS
import Derived.ProofKit
import Derived.OpenShut
import Derived.ShutString
import Derived.ChangeOld
import Derived.Below
namespace Go.Proofs.Ytfcnhdaefleelaa.fnListAt
open Go.ChangeShapes Go.WideShapes Go.ChangeAt Go.RowKit
open Go.ChangeMaps (open_string shut_string)
set_option linter.unusedVariables false

theorem own : ownKnob Try.prog.godebug = none := by kernel_rfl
theorem laidOut : laidOutB Try.prog = true := by kernel_rfl

theorem ret_b {a b : Bool} (h : a = b) : Ending.returned (.bool a) = .returned (.bool b) := by rw [h]
set_option maxHeartbeats 1000000 in
theorem qxNo_any (v : Value) (l : List ByteArray) (s : ByteArray) (w : World) (hr : Reads w v l) (hlen : l.length ≤ 1048576) (hn : ∀ i, i < l.length → sameT (at_ l i) s = false) :
    Calls Try.prog 17 #[v, .string s] w fun e w' => e = .returned (.bool false) ∧ w = w' := by
  rcases hr with ⟨rfl, ao, cap, rfl, _⟩ | ⟨h0, b, off, cap, rfl, hb, hnc, hcm, hc⟩
  · clear hn
    go_enter Try.func17, Try.ntmps17
    go_wp2_with fail
    refine wp_loop_rounds 1 ?_
    rw [rounds_succ]
    go_wp2_with fail
    go_ret
    exact ⟨rfl, rfl⟩
  · clear hcm hnc
    have HC : Hid (∀ k, k < l.length → w.cell? ⟨b, off + k, none⟩ = some (.string (at_ l k))) := hc
    have HN : Hid (∀ i, i < l.length → sameT (at_ l i) s = false) := hn
    clear hc hn
    go_enter Try.func17, Try.ntmps17
    go_wp2_with fail
    go_loop [5] (fun i => ∃ k : Nat, k ≤ l.length ∧ i = .int .i64 k) (fun i => l.length - (intOf i).toNat)
    case atStart => exact ⟨0, Nat.zero_le _, rfl⟩
    case round =>
      obtain ⟨k, hk, rfl⟩ := hrel
      by_cases hlt : k < l.length
      · have hcell := HC.out k hlt
        have hlt2 : (k : Int) < (l.length : Int) := by omega
        have h1 : ((at_ l k).toList == s.toList) = false := HN.out k hlt
        go_wp2_with fail
        go_round
        case rel => exact ⟨k + 1, hlt, by go_num⟩
        case measure => simp [intOf]; omega
      · obtain rfl : k = l.length := by omega
        go_wp2_with fail
        go_ret
        exact ⟨rfl, rfl⟩
theorem at_cases (l : List ByteArray) (t : ByteArray) : atR l t = -1 ∨ ∃ k : Nat, atR l t = (k : Int) ∧ k < l.length ∧ sameT (at_ l k) t = true ∧ ∀ i, i < k → sameT (at_ l i) t = false := by
  cases hok : okB l with
  | false => exact .inl (atR_no t hok)
  | true =>
    rw [atR_ok t hok]
    unfold idxS
    cases h : l.findIdx? (fun s => sameT s t) with
    | none => exact .inl rfl
    | some k =>
      right
      rw [List.findIdx?_eq_some_iff_getElem] at h
      obtain ⟨hk, hy, hn⟩ := h
      refine ⟨k, rfl, hk, by rw [at_lt hk]; exact hy, fun i hi => ?_⟩
      rw [at_lt (Nat.lt_trans hi hk)]
      simpa using hn i hi

set_option maxHeartbeats 4000000 in
theorem walk (v : Value) (zs : List Int) (w : World) (h : IsBytes w v zs) :
    Calls Try.prog 5 #[v] w fun e w' => e = .returned (.bool true) ∧ Below w.heap.size w w' := by
  have hI := h
  obtain ⟨ao, cap, rfl, hlc, hcm, hzb, hz⟩ := h
  unfold maxLen at hcm
  clear hz hzb
  rcases Int.lt_or_le (1048576 : Int) (zs.length : Int) with hx | hx
  · go_enter Try.func5, Try.ntmps5
    go_wp2_with fail
    go_ret
    exact ⟨rfl, Below.refl _ _⟩
  · go_enter Try.func5, Try.ntmps5
    go_wp2_with fail
    refine (drawAt_any _ zs _ hI).mono ?_
    rintro e w1 ⟨u, l, t, rfl, ho1, hl, ht, HB1⟩
    have hr := owns_reads ho1
    have hrr := hr
    clear hI ho1
    rcases at_cases l t with hA | ⟨k, hA, hk, hy, hn⟩
    · have HA : Hid (atR l t = -1) := hA
      clear hA
      go_wp2_with (first | (go_at_call 15; refine (implAt_any u l t _ hrr (by omega)).mono ?_; rw [HA.out]; rintro e w' ⟨rfl, rfl⟩) | (go_at_call 16; refine (specAt_any u l t _ hrr (by omega)).mono ?_; rw [HA.out]; rintro e w' ⟨rfl, rfl⟩))
      go_ret
      exact ⟨rfl, HB1⟩
    · have HA : Hid (atR l t = (k : Int)) := hA
      rcases hr with ⟨rfl, _⟩ | ⟨h0, b, off, cap2, rfl, hb, hnc, hcm2, hc⟩
      · simp at hk
      have hcell := hc k hk
      have h1 : ((at_ l k).toList == t.toList) = true := hy
      have hk1 : (k : Int) < (l.length : Int) := by omega
      have hk2 : (0 : Int) ≤ (k : Int) := by omega
      have hk3 : (k : Int) ≤ (cap2 : Int) := by omega
      have hcut : ∀ ao n c, (¬ cap2 = 0 → ao = some ⟨b, off, none⟩) → ao ≠ none → n = k → c = cap2 → Reads w1 (.slice ao n c) (l.take k) := fun ao n c h1 h2 h3 h4 => by
        have := reads_cut hb hnc hcm2 hc (ao := ao) (a := 0) (e := k) h1 h2 (Nat.zero_le _) (by omega) (by omega) (by omega)
        rwa [List.drop_zero] at this
      have HCUT : Hid (∀ ao n c, (¬ cap2 = 0 → ao = some ⟨b, off, none⟩) → ao ≠ none → n = k → c = cap2 → Reads w1 (.slice ao n c) (l.take k)) := hcut
      have HN : Hid (∀ i, i < (l.take k).length → sameT (at_ (l.take k) i) t = false) := fun i hi => by
        have hi' : i < k := by rw [List.length_take] at hi; omega
        have e : at_ (l.take k) i = at_ l i := by rw [at_lt hi, at_lt (Nat.lt_trans hi' hk), List.getElem_take]
        rw [e]; exact hn i hi'
      have hlen2 : (l.take k).length ≤ 1048576 := by rw [List.length_take]; omega
      clear hA hc hcut hn hy
      go_wp2_with (first | (go_at_call 15; refine (implAt_any _ l t _ hrr (by omega)).mono ?_; rw [HA.out]; rintro e w' ⟨rfl, rfl⟩) | (go_at_call 16; refine (specAt_any _ l t _ hrr (by omega)).mono ?_; rw [HA.out]; rintro e w' ⟨rfl, rfl⟩))
      refine (qxNo_any _ (l.take k) t _ (HCUT.out _ _ _ (fun _ => rfl) (by simp) rfl rfl) hlen2 HN.out).mono ?_
      rintro e w2 ⟨rfl, rfl⟩
      go_wp2_with fail
      go_ret
      exact ⟨rfl, HB1⟩

set_option maxRecDepth 100000 in
theorem lifted (os : Os) (started : os.Started) (H : Type) (enc : TypeId × Value → H) :
    ReturnsInHanded {} Try.checked os 5 .any (Rows.fnListAtSpec.pre6 enc Try.prog Try.f5 Rows.fnListAtRow.domain false) (Rows.fnListAtSpec.post enc Try.prog Try.f5 false true false false) := by
  refine returnsInHanded_of_change (C := Try.checked) own started (by kernel_rfl) Try.func5
    (ChangeSpec.witness6 (enc := enc) (C := Try.checked) false ⟨#[], #[.slice none 0 0], []⟩ 8 (by kernel_rfl) (by kernel_rfl) (by kernel_rfl) (by kernel_rfl)) ?_
  intro W base args ds gs before hval0 hW hcnd _
  have hval : ∀ (j : Nat) t v, Try.f5.params[j]? = some t → args[j]? = some v → Value.okWide Try.prog W .any base t v := hval0
  have hW' := hW
  obtain ⟨p, q, hA0, hV, rfl, hfz, hnd⟩ := hW
  have hA : DataW.TrodAll enc Try.prog W 0 (fun _ => true) true Try.f5.params.toList args.toList ds p := hA0
  rw [Try.params5] at hA hval
  obtain ⟨v0, vs0, d0, ds0, p0, q0, hargs, rfl, rfl, h0, r0⟩ := trodAll_cons hA
  obtain ⟨rfl, rfl, rfl⟩ := trodAll_nil r0
  obtain rfl : args = #[v0] := by cases args; simp_all
  obtain ⟨rfl, rfl⟩ := trodVars_none hV
  obtain ⟨a0, len0, cap0, rfl⟩ := okWide_slice Try.underlying22 (hval 0 22 v0 rfl rfl)
  have k0 := h0
  have lt0 : ∀ x ∈ p0, x.block < W.heap.size := by obtain ⟨m, hm⟩ := k0; exact DataW.trod_lt m _ _ _ hm
  obtain ⟨z0, w0⟩ : ∃ zs, IsBytes W (.slice a0 len0 cap0) zs := by
    obtain ⟨fuel, hf⟩ := h0
    rcases open_ints Try.underlying22 Try.underlying5 (by kernel_rfl) hf with ⟨hcs, _⟩ | ⟨x, ln, cp, zs, hcs, _, hl, hm, hz, _, hcell, hwz⟩
    · exact bytes_of_none (by simpa [Value.cells] using hcs)
    · exact bytes_of_some (by simpa [Value.cells] using hcs) hl hm (by simpa using hz) hcell hwz
  clear hA0 hval0
  refine (walk (.slice a0 len0 cap0) z0 W w0).mono fun e W' ⟨he, bel⟩ => ?_
  subst he
  exact ⟨_, rfl, _, _, _, [], _, [], hW', trodAll_mk1 (shut_bool Try.underlying4 _), (trodAll_cons_mk (Below.trod laidOut (by kernel_rfl) (of_decide_eq_true (by kernel_rfl)) k0 bel lt0) trodAll_mk0), rfl, bel.frame _, fun h => by cases h⟩

theorem over : Rows.fnListAtRow.holds Try.pinned (OpenSpec.ofChange Rows.fnListAtSpec) :=
  OpenClaim.holds_of_wide 5 Try.f5 rfl rfl rfl rfl rfl rfl rfl ⟨rfl, rfl, rfl, rfl, rfl⟩ rfl rfl rfl rfl rfl (by kernel_rfl) Try.func5 (by kernel_rfl)
    (of_decide_eq_true (by kernel_rfl)) (by unfold Func.isWrapper; first | (rw [if_pos (by decide +kernel)]; kernel_rfl) | (rw [if_neg (by decide +kernel)]; exact ⟨rfl, rfl⟩))
    (fun os started H enc _ => lifted os started H enc)

theorem proved : Rows.FnListAtSaid := over
end Go.Proofs.Ytfcnhdaefleelaa.fnListAt
