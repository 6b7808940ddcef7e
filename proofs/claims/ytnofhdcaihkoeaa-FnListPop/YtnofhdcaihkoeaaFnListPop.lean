/- Proved: of every drawn list and end, a text that is taken from an end, put there again, leaves the list; ListPop answers as its model. No condition. -/
import Derived.Test.YtnofhdcaihkoeaaPopA
import Derived.Test.YtnofhdcaihkoeaaPushI
import Derived.Test.YtnofhdcaihkoeaaQx
import Derived.Test.YtnofhdcaihkoeaaDrawC
import Derived.ProofKit
import Derived.OpenShut
import Derived.ShutString
import Derived.ChangeOld
import Derived.Below
import Derived.Deep.RegionWith
namespace Go.Proofs.Ytnofhdcaihkoeaa.fnListPop
open Go.ChangeShapes Go.WideShapes Go.ChangeAt Go.RowKit
open Go.ChangeMaps (open_string shut_string)
set_option linter.unusedVariables false

theorem own : ownKnob Try.prog.godebug = none := by kernel_rfl
theorem laidOut : laidOutB Try.prog = true := by kernel_rfl

theorem short_sub {l m : List ByteArray} (h : short l = true) (hs : ∀ s ∈ m, s ∈ l) : short m = true := by
  unfold short at *; rw [List.all_eq_true] at *; exact fun s hm => h s (hs s hm)
theorem okB_parts {l : List ByteArray} (h : okB l = true) : l.length ≤ 16 ∧ short l = true := by
  unfold okB at h; simpa using h
theorem okB_mk {l : List ByteArray} (h1 : l.length ≤ 16) (h2 : short l = true) : okB l = true := by unfold okB; simp [h1, h2]
theorem back {l : List ByteArray} {front : Bool} (h : popBB l = true) : pushB (popL l front) [popT l front] = true ∧ pushed (popL l front) front [popT l front] = l ∧ (popL l front).length + 1 = l.length := by
  unfold popBB at h
  rw [Bool.and_eq_true] at h
  obtain ⟨h16, hsh⟩ := okB_parts h.1
  have h0 : 0 < l.length := by simpa using h.2
  have hlen : (popL l front).length + 1 = l.length := by cases front <;> simp [popL] <;> omega
  have hmem : popT l front ∈ l := by
    cases front
    · show at_ l (l.length - 1) ∈ l
      rw [at_lt (by omega)]; exact List.getElem_mem _
    · show at_ l 0 ∈ l
      rw [at_lt h0]; exact List.getElem_mem _
  have hsub : ∀ s ∈ popL l front, s ∈ l := by
    cases front
    · exact fun s hs => (List.dropLast_sublist l).mem hs
    · exact fun s hs => List.mem_of_mem_tail hs
  refine ⟨?_, ?_, hlen⟩
  · unfold pushB
    rw [okB_mk (by omega) (short_sub hsh hsub), okB_mk (by simp) (short_sub hsh (fun s hs => by rw [List.mem_singleton] at hs; rw [hs]; exact hmem))]
    simp; omega
  · cases front
    · show l.dropLast ++ [at_ l (l.length - 1)] = l
      rw [at_lt (by omega)]
      have := List.dropLast_concat_getLast (l := l) (by intro e; rw [e] at h0; simp at h0)
      rw [List.getLast_eq_getElem] at this; exact this
    · show [at_ l 0].reverse ++ l.tail = l
      rw [at_lt h0]
      cases l with
      | nil => simp at h0
      | cons a t => rfl

set_option maxHeartbeats 8000000 in
theorem walk (v : Value) (zs : List Int) (w : World) (h : IsBytes w v zs) :
    Calls Try.prog 11 #[v] w fun e w' => e = .returned (.bool true) ∧ Below w.heap.size w w' := by
  have hI := h
  obtain ⟨ao, cap, rfl, hlc, hcm, hzb, hz⟩ := h
  unfold maxLen at hcm
  clear hz hzb
  rcases Int.lt_or_le (1048576 : Int) (zs.length : Int) with hx | hx
  · go_enter Try.func11, Try.ntmps11
    go_wp2_with fail
    go_ret
    exact ⟨rfl, Below.refl _ _⟩
  · go_enter Try.func11, Try.ntmps11
    go_wp2_with fail
    refine (drawPop_any _ zs _ hI).mono ?_
    rintro e w1 ⟨u, l, f, rfl, ho1, hl, hs, HB1⟩
    have hW1 := HB1.size
    have ol1 := own_of ho1
    clear hI ho1 hs
    go_wp2_with fail
    refine (implPop_all u l f _ (own_reads ol1) (by omega)).mono ?_
    rintro e w2 ⟨x, rfl, ox2, hb2⟩
    have HB2 := below_step HB1 hW1 hb2
    have hW2 := HB2.size
    have ol2 := own_kept ol1 hb2
    clear hb2 HB1 ol1
    go_wp2_with fail
    refine (specPop_all u l f _ (own_reads ol2) (by omega)).mono ?_
    rintro e w3 ⟨y, rfl, oy3, hb3⟩
    have HB3 := below_step HB2 hW2 hb3
    have hW3 := HB3.size
    have ol3 := own_kept ol2 hb3
    have ox3 := own_kept ox2 hb3
    have hne := ne_self (popXX l f)
    have hR := popRR_len l f (by omega)
    clear hb3 HB2 ol2 ox2
    cases hb : popBB l with
    | false =>
      go_wp2_with fail
      refine (qx_true x y (popRR l f) _ (own_reads ox3) (own_reads oy3) hR).mono ?_
      rintro e w4 ⟨rfl, hb4⟩
      have HB4 := below_step HB3 hW3 hb4
      have hW4 := HB4.size
      have ox4 := own_kept ox3 hb4
      have oy4 := own_kept oy3 hb4
      clear hb4 HB3 ox3 oy3
      go_wp2_with fail
      refine (qx_true x y (popRR l f) _ (own_reads ox4) (own_reads oy4) hR).mono ?_
      rintro e w5 ⟨rfl, hb5⟩
      have HB5 := below_step HB4 hW4 hb5
      go_wp2_with fail
      go_ret
      exact ⟨rfl, HB5⟩
    | true =>
      have hbk := back (l := l) (front := f) hb
      have HX : Hid (popXX l f = popT l f) := by show _ = _; unfold popXX; rw [hb]; rfl
      have HR : Hid (popRR l f = popL l f) := by show _ = _; unfold popRR; rw [hb]; rfl
      have HBK : Hid (pushB (popRR l f) [popXX l f] = true ∧ pushed (popRR l f) f [popXX l f] = l ∧ (popRR l f).length + 1 = l.length) := by rw [HX.out, HR.out]; exact hbk
      obtain ⟨ax, cx, hxs⟩ := reads_shape (own_reads ox3)
      subst hxs
      clear hbk
      go_wp2_with fail
      refine (qx_true _ y (popRR l f) _ (own_reads ox3) (own_reads oy3) hR).mono ?_
      rintro e w4 ⟨rfl, hb4⟩
      have HB4 := below_step HB3 hW3 hb4
      have hW4 := HB4.size
      have ox4 := own_kept ox3 hb4
      have ol4 := own_kept ol3 hb4
      clear hb4 HB3 ox3 oy3 ol3
      have oa : Owns (w4.alloc (.cells #[.string (popXX l f)] 9)) w4.heap.size (.slice (some ⟨w4.heap.size, 0, none⟩) 1 1) [popXX l f] := World.ownsRow_lit w4 #[.string (popXX l f)] 1 (Nat.le_refl _) (by unfold maxLen; omega) rfl
      have hba := (Below.refl w4.heap.size w4).alloc (Nat.le_refl _) (.cells #[.string (popXX l f)] 9)
      have ox5 := own_kept ox4 hba
      have ol5 := own_kept ol4 hba
      have HB5 := below_step HB4 hW4 hba
      have hW5 := HB5.size
      clear ox4 ol4 HB4
      go_wp2_with fail
      generalize w4.alloc (.cells #[.string (popXX l f)] 9) = w5 at *
      refine (implPush_any _ _ (popRR l f) [popXX l f] f _ (own_reads ox5) (owns_reads oa) hR (by simp)).mono ?_
      rintro e w6 ⟨z, rfl, oz6, hb6⟩
      have HB6 := below_step HB5 hW5 hb6
      have hW6 := HB6.size
      have ol6 := own_kept ol5 hb6
      have hpb := HBK.out.1
      have hpr : pushR (popRR l f) f [popXX l f] = l := by
        have hok : okB (popRR l f) = true := by have := hpb; unfold pushB at this; simp only [Bool.and_eq_true] at this; exact this.1.1
        unfold pushR; rw [hok, hpb]; exact HBK.out.2.1
      rw [hpr] at oz6
      obtain ⟨al, cl, hls⟩ := reads_shape (own_reads ol6)
      subst hls
      have hlen2 : (((popRR l f).length : Int) + 1 == (l.length : Int)) = true := beq_iff_eq.2 (by have := HBK.out.2.2; omega)
      clear hb6 HB5 oa hba ox5 ol5 hpr
      go_wp2_with fail
      refine (qx_true z _ l _ (owns_reads oz6) (own_reads ol6) (by omega)).mono ?_
      rintro e w7 ⟨rfl, hb7⟩
      have HB7 := below_step HB6 hW6 hb7
      clear hb7 HB6
      go_wp2_with fail
      go_ret
      exact ⟨rfl, HB7⟩

set_option maxRecDepth 100000 in
theorem lifted (os : Os) (started : os.Started) (H : Type) (enc : TypeId × Value → H) :
    ReturnsInHanded {} Try.checked os 11 .any (Rows.fnListPopSpec.pre6 enc Try.prog Try.f11 Rows.fnListPopRow.domain false) (Rows.fnListPopSpec.post enc Try.prog Try.f11 false true false false) := by
  refine returnsInHanded_of_change (C := Try.checked) own started (by kernel_rfl) Try.func11
    (ChangeSpec.witness6 (enc := enc) (C := Try.checked) false ⟨#[], #[.slice none 0 0], []⟩ 8 (by kernel_rfl) (by kernel_rfl) (by kernel_rfl) (by kernel_rfl)) ?_
  intro W base args ds gs before hval0 hW hcnd _
  have hval : ∀ (j : Nat) t v, Try.f11.params[j]? = some t → args[j]? = some v → Value.okWide Try.prog W .any base t v := hval0
  have hW' := hW
  obtain ⟨p, q, hA0, hV, rfl, hfz, hnd⟩ := hW
  have hA : DataW.TrodAll enc Try.prog W 0 (fun _ => true) true Try.f11.params.toList args.toList ds p := hA0
  rw [Try.params11] at hA hval
  obtain ⟨v0, vs0, d0, ds0, p0, q0, hargs, rfl, rfl, h0, r0⟩ := trodAll_cons hA
  obtain ⟨rfl, rfl, rfl⟩ := trodAll_nil r0
  obtain rfl : args = #[v0] := by cases args; simp_all
  obtain ⟨rfl, rfl⟩ := trodVars_none hV
  obtain ⟨a0, len0, cap0, rfl⟩ := okWide_slice Try.underlying39 (hval 0 39 v0 rfl rfl)
  have k0 := h0
  have lt0 : ∀ x ∈ p0, x.block < W.heap.size := by obtain ⟨m, hm⟩ := k0; exact DataW.trod_lt m _ _ _ hm
  obtain ⟨z0, w0⟩ : ∃ zs, IsBytes W (.slice a0 len0 cap0) zs := by
    obtain ⟨fuel, hf⟩ := h0
    rcases open_ints Try.underlying39 Try.underlying5 (by kernel_rfl) hf with ⟨hcs, _⟩ | ⟨x, ln, cp, zs, hcs, _, hl, hm, hz, _, hcell, hwz⟩
    · exact bytes_of_none (by simpa [Value.cells] using hcs)
    · exact bytes_of_some (by simpa [Value.cells] using hcs) hl hm (by simpa using hz) hcell hwz
  clear hA0 hval0
  refine (walk (.slice a0 len0 cap0) z0 W w0).mono fun e W' ⟨he, bel⟩ => ?_
  subst he
  exact ⟨_, rfl, _, _, _, [], _, [], hW', trodAll_mk1 (shut_bool Try.underlying4 _), (trodAll_cons_mk (Below.trod laidOut (by kernel_rfl) (of_decide_eq_true (by kernel_rfl)) k0 bel lt0) trodAll_mk0), rfl, bel.frame _, fun h => by cases h⟩

theorem over : Rows.fnListPopRow.holds Try.pinned (OpenSpec.ofChange Rows.fnListPopSpec) :=
  OpenClaim.holds_of_wide 11 Try.f11 rfl rfl rfl rfl rfl rfl rfl ⟨rfl, rfl, rfl, rfl, rfl⟩ rfl rfl rfl rfl rfl (by kernel_rfl) Try.func11 (by kernel_rfl)
    (of_decide_eq_true (by kernel_rfl)) (by unfold Func.isWrapper; first | (rw [if_pos (by decide +kernel)]; kernel_rfl) | (rw [if_neg (by decide +kernel)]; exact ⟨rfl, rfl⟩))
    (fun os started H enc _ => lifted os started H enc)

theorem proved : Rows.FnListPopSaid := over
end Go.Proofs.Ytnofhdcaihkoeaa.fnListPop
