/- Proved: of every drawn list, place and text, a text that is put in a place is there, and all others stay; ListSet answers as its model. No condition. -/
import Derived.Test.YtnofhdcaihkoeaaSetI
import Derived.Test.YtnofhdcaihkoeaaOwn
import Derived.Test.YtnofhdcaihkoeaaQx
import Derived.Test.YtnofhdcaihkoeaaDrawD
import Derived.ProofKit
import Derived.OpenShut
import Derived.ShutString
import Derived.ChangeOld
import Derived.Below
import Derived.Deep.RegionWith
namespace Go.Proofs.Ytnofhdcaihkoeaa.fnListSet
open Go.ChangeShapes Go.WideShapes Go.ChangeAt Go.RowKit
open Go.ChangeMaps (open_string shut_string)
set_option linter.unusedVariables false

theorem own : ownKnob Try.prog.godebug = none := by kernel_rfl
theorem laidOut : laidOutB Try.prog = true := by kernel_rfl

theorem set_facts {l : List ByteArray} {a : Int} {s : ByteArray} (h : setOkB l a s = true) : ∃ K : Nat, atP l.length a = (K : Int) ∧ K < l.length ∧ setR l a s = l.set K s := by
  obtain ⟨K, h1, h2⟩ := set_at h
  refine ⟨K, h1, h2, ?_⟩
  have hok : okB l = true := by unfold setOkB at h; simp only [Bool.and_eq_true] at h; exact h.1.1.1
  unfold setR; rw [if_pos hok, if_pos h, h1]; rfl
theorem at_set_self {l : List ByteArray} {K : Nat} {s : ByteArray} (h : K < l.length) : at_ (l.set K s) K = s := by
  rw [at_lt (by simpa using h)]; simp
theorem at_set_other {l : List ByteArray} {K i : Nat} {s : ByteArray} (hne : K ≠ i) : at_ (l.set K s) i = at_ l i := by
  unfold at_; rw [List.getD_eq_getElem?_getD, List.getD_eq_getElem?_getD, List.getElem?_set_ne hne]

set_option maxHeartbeats 8000000 in
theorem walk (v : Value) (zs : List Int) (w : World) (h : IsBytes w v zs) :
    Calls Try.prog 13 #[v] w fun e w' => e = .returned (.bool true) ∧ Below w.heap.size w w' := by
  have hI := h
  obtain ⟨ao, cap, rfl, hlc, hcm, hzb, hz⟩ := h
  unfold maxLen at hcm
  clear hz hzb
  rcases Int.lt_or_le (1048576 : Int) (zs.length : Int) with hx | hx
  · go_enter Try.func13, Try.ntmps13
    go_wp2_with fail
    go_ret
    exact ⟨rfl, Below.refl _ _⟩
  · go_enter Try.func13, Try.ntmps13
    go_wp2_with fail
    refine (drawSet_any _ zs _ hI).mono ?_
    rintro e w1 ⟨u, l, a, s, rfl, ho1, hl, ha0, ha1, hs, HB1⟩
    have hW1 := HB1.size
    have rl1 := owns_reads ho1
    have hR := setR_len l a s (by omega)
    clear hI ho1
    obtain ⟨au, cu, hus⟩ := reads_shape rl1
    subst hus
    go_wp2_with fail
    refine (implSet_any _ l a s _ rl1 (by omega) ⟨by omega, by omega⟩ (by unfold maxLen; omega)).mono ?_
    rintro e w2 ⟨x, rfl, ox2, hb2⟩
    have rx2 := owns_reads ox2
    have rl2 := reads_kept rl1 hb2
    have HB2 := below_step HB1 hW1 hb2
    have hW2 := HB2.size
    clear hb2 HB1 rl1 ox2
    obtain ⟨ax, cx, hxs⟩ := reads_shape rx2
    subst hxs
    go_wp2_with fail
    refine (specSet_any _ l a s _ rl2 (by omega) ⟨by omega, by omega⟩ (by unfold maxLen; omega)).mono ?_
    rintro e w3 ⟨y, rfl, oy3, hb3⟩
    have ry3 := owns_reads oy3
    have rl3 := reads_kept rl2 hb3
    have rx3 := reads_kept rx2 hb3
    have HB3 := below_step HB2 hW2 hb3
    have hW3 := HB3.size
    clear hb3 HB2 rl2 rx2 oy3
    cases hb : setOkB l a s with
    | false =>
      go_wp2_with fail
      refine (qx_true _ y (setR l a s) _ rx3 ry3 hR).mono ?_
      rintro e w4 ⟨rfl, hb4⟩
      have rx4 := reads_kept rx3 hb4
      have ry4 := reads_kept ry3 hb4
      have HB4 := below_step HB3 hW3 hb4
      have hW4 := HB4.size
      clear hb4 HB3 rl3 rx3 ry3
      go_wp2_with fail
      refine (qx_true _ y (setR l a s) _ rx4 ry4 hR).mono ?_
      rintro e w5 ⟨rfl, hb5⟩
      have HB5 := below_step HB4 hW4 hb5
      go_wp2_with fail
      go_ret
      exact ⟨rfl, HB5⟩
    | true =>
      obtain ⟨K, hK, hKl, hX⟩ := set_facts hb
      have hXl : (setR l a s).length = l.length := by rw [hX]; simp
      have HXL : Hid ((setR l a s).length = l.length) := hXl
      have HS : Hid (at_ (setR l a s) K = s) := by show _ = _; rw [hX]; exact at_set_self hKl
      have hO : ∀ i, K ≠ i → at_ (setR l a s) i = at_ l i := fun i hi => by rw [hX]; exact at_set_other hi
      have HO : Hid (∀ i, K ≠ i → at_ (setR l a s) i = at_ l i) := hO
      have HK0 : Hid (atP l.length a = (K : Int)) := hK
      clear hX hK hXl hO
      go_wp2_with fail
      refine (qx_true _ y (setR l a s) _ rx3 ry3 hR).mono ?_
      rintro e w4 ⟨rfl, hb4⟩
      have rl4 := reads_kept rl3 hb4
      have rx4 := reads_kept rx3 hb4
      have HB4 := below_step HB3 hW3 hb4
      have hW4 := HB4.size
      clear hb4 HB3 rl3 rx3 ry3
      clear hb
      have hXl := HXL.out
      generalize setR l a s = X at *
      obtain ⟨bl, ol, hal, hbl, hcl⟩ := reads_some rl4 (by omega)
      subst hal
      obtain ⟨bx, ox, hax, hbx, hcx⟩ := reads_some rx4 (by omega)
      subst hax
      have hK := HK0.out
      unfold atP at hK
      clear HK0 HXL
      rcases Int.lt_or_le a 0 with hc1 | hc1
      · rw [if_pos hc1] at hK
        have HK : Hid (a + (l.length : Int) = (K : Int)) := hK
        clear hK
        have hwr0 : IntKind.i64.wrap (a + (l.length : Int)) = a + (l.length : Int) := wrap_mid (by omega) (by omega)
        go_wp2_with fail
        go_loopw [10] (fun i wr => ∃ k : Nat, k ≤ X.length ∧ i = .int .i64 (k : Int) ∧ Below w4.heap.size w4 wr) (fun i _ => X.length - (intOf i).toNat)
        case atStart => exact ⟨0, Nat.zero_le _, rfl, Below.refl _ _⟩
        case round =>
          obtain ⟨k, hk, rfl, hB⟩ := hrel
          by_cases hlt : k < X.length
          · have hcl2 : wr.cell? ⟨bl, ol + k, none⟩ = some (.string (at_ l k)) := (hB.cell (p := ⟨bl, ol + k, none⟩) hbl).trans (hcl k (by omega))
            have hcx2 : wr.cell? ⟨bx, ox + k, none⟩ = some (.string (at_ X k)) := (hB.cell (p := ⟨bx, ox + k, none⟩) hbx).trans (hcx k hlt)
            have hi1 : (k : Int) < (X.length : Int) := by omega
            have hi2 : (k : Int) < (l.length : Int) := by omega
            have hK2 := HK.out
            clear hcl hcx
            by_cases hkK : K = k
            · subst hkK
              have hq : ((K : Int) == a + (l.length : Int)) = true := beq_iff_eq.2 hK2.symm
              have hq2 : ((K : Int) != a + (l.length : Int)) = false := by rw [bne, hq]; rfl
              rw [HS.out] at hcx2
              have hne := ne_self s
              clear hK2 hcl2
              go_wp2_with fail
              go_quiet (fail)
              go_wp2_with fail
              go_roundw
              case rel => exact ⟨K + 1, hlt, by go_num, below_drewN hB _⟩
              case measure => simp [intOf]; omega
            · have hq : ((k : Int) == a + (l.length : Int)) = false := beq_eq_false_iff_ne.2 (by omega)
              have hq2 : ((k : Int) != a + (l.length : Int)) = true := by rw [bne, hq]; rfl
              rw [HO.out k hkK] at hcx2
              have hne := ne_self (at_ l k)
              clear hK2
              go_wp2_with fail
              go_quiet (fail)
              go_wp2_with fail
              go_roundw
              case rel => exact ⟨k + 1, hlt, by go_num, below_drewN hB _⟩
              case measure => simp [intOf]; omega
          · have HB9 := HB4.trans (hB.mono hW4)
            have hq : ((X.length : Int) == (l.length : Int)) = true := beq_iff_eq.2 (by omega)
            clear hcl hcx
            go_wp2_with fail
            go_ret
            exact ⟨by first | rfl | (rw [hq]), HB9⟩
      · rw [if_neg (by omega)] at hK
        have HK : Hid (a = (K : Int)) := hK
        clear hK
        go_wp2_with fail
        go_loopw [10] (fun i wr => ∃ k : Nat, k ≤ X.length ∧ i = .int .i64 (k : Int) ∧ Below w4.heap.size w4 wr) (fun i _ => X.length - (intOf i).toNat)
        case atStart => exact ⟨0, Nat.zero_le _, rfl, Below.refl _ _⟩
        case round =>
          obtain ⟨k, hk, rfl, hB⟩ := hrel
          by_cases hlt : k < X.length
          · have hcl2 : wr.cell? ⟨bl, ol + k, none⟩ = some (.string (at_ l k)) := (hB.cell (p := ⟨bl, ol + k, none⟩) hbl).trans (hcl k (by omega))
            have hcx2 : wr.cell? ⟨bx, ox + k, none⟩ = some (.string (at_ X k)) := (hB.cell (p := ⟨bx, ox + k, none⟩) hbx).trans (hcx k hlt)
            have hi1 : (k : Int) < (X.length : Int) := by omega
            have hi2 : (k : Int) < (l.length : Int) := by omega
            have hK2 := HK.out
            clear hcl hcx
            by_cases hkK : K = k
            · subst hkK
              have hq : ((K : Int) == a) = true := beq_iff_eq.2 hK2.symm
              have hq2 : ((K : Int) != a) = false := by rw [bne, hq]; rfl
              rw [HS.out] at hcx2
              have hne := ne_self s
              clear hK2 hcl2
              go_wp2_with fail
              go_quiet (fail)
              go_wp2_with fail
              go_roundw
              case rel => exact ⟨K + 1, hlt, by go_num, below_drewN hB _⟩
              case measure => simp [intOf]; omega
            · have hq : ((k : Int) == a) = false := beq_eq_false_iff_ne.2 (by omega)
              have hq2 : ((k : Int) != a) = true := by rw [bne, hq]; rfl
              rw [HO.out k hkK] at hcx2
              have hne := ne_self (at_ l k)
              clear hK2
              go_wp2_with fail
              go_quiet (fail)
              go_wp2_with fail
              go_roundw
              case rel => exact ⟨k + 1, hlt, by go_num, below_drewN hB _⟩
              case measure => simp [intOf]; omega
          · have HB9 := HB4.trans (hB.mono hW4)
            have hq : ((X.length : Int) == (l.length : Int)) = true := beq_iff_eq.2 (by omega)
            clear hcl hcx
            go_wp2_with fail
            go_ret
            exact ⟨by first | rfl | (rw [hq]), HB9⟩

set_option maxRecDepth 100000 in
theorem lifted (os : Os) (started : os.Started) (H : Type) (enc : TypeId × Value → H) :
    ReturnsInHanded {} Try.checked os 13 .any (Rows.fnListSetSpec.pre6 enc Try.prog Try.f13 Rows.fnListSetRow.domain false) (Rows.fnListSetSpec.post enc Try.prog Try.f13 false true false false) := by
  refine returnsInHanded_of_change (C := Try.checked) own started (by kernel_rfl) Try.func13
    (ChangeSpec.witness6 (enc := enc) (C := Try.checked) false ⟨#[], #[.slice none 0 0], []⟩ 8 (by kernel_rfl) (by kernel_rfl) (by kernel_rfl) (by kernel_rfl)) ?_
  intro W base args ds gs before hval0 hW hcnd _
  have hval : ∀ (j : Nat) t v, Try.f13.params[j]? = some t → args[j]? = some v → Value.okWide Try.prog W .any base t v := hval0
  have hW' := hW
  obtain ⟨p, q, hA0, hV, rfl, hfz, hnd⟩ := hW
  have hA : DataW.TrodAll enc Try.prog W 0 (fun _ => true) true Try.f13.params.toList args.toList ds p := hA0
  rw [Try.params13] at hA hval
  obtain ⟨v0, vs0, d0, ds0, p0, q0, hargs, rfl, rfl, h0, r0⟩ := trodAll_cons hA
  obtain ⟨rfl, rfl, rfl⟩ := trodAll_nil r0
  obtain rfl : args = #[v0] := by cases args; simp_all
  obtain ⟨rfl, rfl⟩ := trodVars_none hV
  obtain ⟨a0, len0, cap0, rfl⟩ := okWide_slice Try.underlying39 (hval 0 39 v0 rfl rfl)
  have k0 := h0
  have lt0 : ∀ x ∈ p0, x.block < W.heap.size := by obtain ⟨m, hm⟩ := k0; exact DataW.trod_lt m _ _ _ hm
  obtain ⟨z0, w0⟩ : ∃ zs, IsBytes W (.slice a0 len0 cap0) zs := by
    obtain ⟨fuel, hf⟩ := h0
    rcases open_ints Try.underlying39 Try.underlying5 (by kernel_rfl) hf with ⟨hcs, _⟩ | ⟨x, ln, cp, zs, hcs, _, hl, hm, hz, _, hcell, hwz⟩
    · exact bytes_of_none (by simpa [Value.cells] using hcs)
    · exact bytes_of_some (by simpa [Value.cells] using hcs) hl hm (by simpa using hz) hcell hwz
  clear hA0 hval0
  refine (walk (.slice a0 len0 cap0) z0 W w0).mono fun e W' ⟨he, bel⟩ => ?_
  subst he
  exact ⟨_, rfl, _, _, _, [], _, [], hW', trodAll_mk1 (shut_bool Try.underlying4 _), (trodAll_cons_mk (Below.trod laidOut (by kernel_rfl) (of_decide_eq_true (by kernel_rfl)) k0 bel lt0) trodAll_mk0), rfl, bel.frame _, fun h => by cases h⟩

theorem over : Rows.fnListSetRow.holds Try.pinned (OpenSpec.ofChange Rows.fnListSetSpec) :=
  OpenClaim.holds_of_wide 13 Try.f13 rfl rfl rfl rfl rfl rfl rfl ⟨rfl, rfl, rfl, rfl, rfl⟩ rfl rfl rfl rfl rfl (by kernel_rfl) Try.func13 (by kernel_rfl)
    (of_decide_eq_true (by kernel_rfl)) (by unfold Func.isWrapper; first | (rw [if_pos (by decide +kernel)]; kernel_rfl) | (rw [if_neg (by decide +kernel)]; exact ⟨rfl, rfl⟩))
    (fun os started H enc _ => lifted os started H enc)

theorem proved : Rows.FnListSetSaid := over
end Go.Proofs.Ytnofhdcaihkoeaa.fnListSet
