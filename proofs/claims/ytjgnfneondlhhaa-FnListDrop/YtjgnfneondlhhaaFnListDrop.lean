/- Proved: of every drawn list, count and text, just so many of what is one text are taken away, all others stay, in order; ListDrop answers as its model. No condition. -/
import Derived.Test.YtjgnfneondlhhaaDropA
import Derived.Test.YtjgnfneondlhhaaOwn
import Derived.Test.YtjgnfneondlhhaaQx
import Derived.Test.YtjgnfneondlhhaaDrawE
import Derived.ProofKit
import Derived.OpenShut
import Derived.ShutString
import Derived.ChangeOld
import Derived.Below
import Derived.Deep.RegionWith
namespace Go.Proofs.Ytjgnfneondlhhaa.fnListDrop
open Go.ChangeShapes Go.WideShapes Go.ChangeAt Go.RowKit
open Go.ChangeMaps (open_string shut_string)
set_option linter.unusedVariables false

theorem own : ownKnob Try.prog.godebug = none := by kernel_rfl
theorem laidOut : laidOutB Try.prog = true := by kernel_rfl

set_option maxHeartbeats 8000000 in
theorem walk (v : Value) (zs : List Int) (w : World) (h : IsBytes w v zs) :
    Calls Try.prog 14 #[v] w fun e w' => e = .returned (.bool true) ∧ Below w.heap.size w w' := by
  have hI := h
  obtain ⟨i0, hi, hz0, hz1, hz2⟩ := info_parts infoS
  obtain ⟨ao, cap, rfl, hlc, hcm, hzb, hz⟩ := h
  unfold maxLen at hcm
  clear hz hzb
  rcases Int.lt_or_le (1048576 : Int) (zs.length : Int) with hx | hx
  · go_enter Try.func14, Try.ntmps14
    go_wp2_with fail
    go_ret
    exact ⟨rfl, Below.refl _ _⟩
  · go_enter Try.func14, Try.ntmps14
    go_wp2_with fail
    refine (drawDrop_any _ zs _ hI).mono ?_
    rintro e w1 ⟨u, l, c, t, rfl, ho1, hl, hc0, hc1, HB1⟩
    have hW1 := HB1.size
    have rl1 := owns_reads ho1
    have hR := dropR_len l c t (by omega)
    clear hI ho1
    obtain ⟨au, cu, hus⟩ := reads_shape rl1
    subst hus
    go_wp2_with fail
    refine (implDrop_any _ l c t _ rl1 (by omega)).mono ?_
    rintro e w2 ⟨x, rfl, ox2, hb2⟩
    have rx2 := owns_reads ox2
    have rl2 := reads_kept rl1 hb2
    have HB2 := below_step HB1 hW1 hb2
    have hW2 := HB2.size
    clear hb2 HB1 rl1 ox2
    obtain ⟨ax, cx, hxs⟩ := reads_shape rx2
    subst hxs
    go_wp2_with fail
    refine (specDrop_all3 _ l c t _ rl2 (by omega)).mono ?_
    rintro e w3 ⟨y, rfl, oy3, hb3⟩
    have ry3 := owns_reads oy3
    have rl3 := reads_kept rl2 hb3
    have rx3 := reads_kept rx2 hb3
    have HB3 := below_step HB2 hW2 hb3
    have hW3 := HB3.size
    clear hb3 HB2 rl2 rx2 oy3
    have HF : Hid (0 < (dropR l c t).length → oth t (dropR l c t) = oth t l ∧ ((dropR l c t).length : Int) + dropN l c t = l.length ∧ dropN l c t = (min (limD l c) (cntT t l) : Nat)) := drop_facts
    generalize dropR l c t = X at *
    generalize dropN l c t = N at *
    go_wp2_with fail
    refine (qx_true _ y X _ rx3 ry3 hR).mono ?_
    rintro e w4 ⟨rfl, hb4⟩
    have rl4 := reads_kept rl3 hb4
    have rx4 := reads_kept rx3 hb4
    have ry4 := reads_kept ry3 hb4
    have HB4 := below_step HB3 hW3 hb4
    have hW4 := HB4.size
    clear hb4 HB3 rl3 rx3 ry3
    by_cases h0 : X.length = 0
    · have h0' : ((X.length : Int) == 0) = true := by rw [h0]; rfl
      clear h0
      go_wp2_with fail
      refine (qx_true _ y X _ rx4 ry4 hR).mono ?_
      rintro e w5 ⟨rfl, hb5⟩
      have HB5 := below_step HB4 hW4 hb5
      go_wp2_with fail
      go_ret
      exact ⟨rfl, HB5⟩
    · have h0' : ((X.length : Int) == 0) = false := beq_eq_false_iff_ne.2 (by omega)
      obtain ⟨hF1, hF2, hF3⟩ := HF.out (by omega)
      have HF1 : Hid (oth t X = oth t l) := hF1
      have HF2 : Hid ((X.length : Int) + N = l.length) := hF2
      have HF3 : Hid (N = (min (limD l c) (cntT t l) : Nat)) := hF3
      clear HF hF1 hF2 hF3 ry4
      have hlpos : 0 < l.length := by have := HF2.out; have := HF3.out; omega
      have hXl : X.length ≤ 21 := by have := HF2.out; have := HF3.out; omega
      obtain ⟨bl, ol, hal, hbl, hcl⟩ := reads_some rl4 hlpos
      subst hal
      obtain ⟨bx, ox, hax, hbx, hcx⟩ := reads_some rx4 (by omega)
      subst hax
      have ho0 : Owns (w4.alloc (.cells #[] 9)) w4.heap.size (.slice (some ⟨w4.heap.size, 0, none⟩) 0 0) [] := World.ownsRow_lit w4 #[] 0 (Nat.le_refl _) (by simp) rfl
      have hB0 : Below w4.heap.size w4 (w4.alloc (.cells #[] 9)) := (Below.refl _ _).alloc (Nat.le_refl _) _
      go_wp2_with fail
      go_loopw [10, 11, 12] (fun a o i wr => ∃ k : Nat, k ≤ l.length ∧ i = .int .i64 (k : Int) ∧ a = .int .i64 (cntT t (l.take k) : Nat) ∧ Owns wr w4.heap.size o (oth t (l.take k)) ∧ Below w4.heap.size w4 wr) (fun _ _ i _ => l.length - (intOf i).toNat)
      case atStart => exact ⟨0, Nat.zero_le _, rfl, rfl, ho0, hB0⟩
      case round =>
        obtain ⟨k, hk, rfl, rfl, ho, hB⟩ := hrel
        clear ho0 hB0
        have hsz := hB.size
        have hcb := cnt_le t (l.take k)
        have hob := oth_len t (l.take k)
        have htk : (l.take k).length = k := by simp; omega
        by_cases hlt : k < l.length
        · have hcell : wr.cell? ⟨bl, ol + k, none⟩ = some (.string (at_ l k)) := (hB.cell (p := ⟨bl, ol + k, none⟩) hbl).trans (hcl k hlt)
          have hi1 : (k : Int) < (l.length : Int) := by omega
          have eT : l.take (k + 1) = l.take k ++ [at_ l k] := by rw [List.take_succ_eq_append_getElem hlt, at_lt hlt]
          clear hcl hcx
          by_cases hst : at_ l k = t
          · have HS : Hid (oth t (l.take (k + 1)) = oth t (l.take k)) := by show _ = _; rw [eT]; exact oth_snoc_hit hst
            have HC : Hid (cntT t (l.take (k + 1)) = cntT t (l.take k) + 1) := by show _ = _; rw [eT]; exact cnt_snoc_hit hst
            have heq : ((at_ l k).toList == t.toList) = true := by rw [hst]; simp
            generalize cntT t (l.take k) = A at *
            generalize oth t (l.take k) = O at *
            clear hst eT
            go_wp2_with fail
            go_roundw
            case rel => exact ⟨k + 1, hlt, by go_num, by rw [HC.out]; go_num, by rw [HS.out]; exact ho, hB⟩
            case measure => simp [intOf]; omega
          · have HS : Hid (oth t (l.take (k + 1)) = oth t (l.take k) ++ [at_ l k]) := by show _ = _; rw [eT]; exact oth_snoc_miss hst
            have HC : Hid (cntT t (l.take (k + 1)) = cntT t (l.take k)) := by show _ = _; rw [eT]; exact cnt_snoc_miss hst
            have heq : ((at_ l k).toList == t.toList) = false := by
              cases he : ((at_ l k).toList == t.toList) with
              | false => rfl
              | true => exact absurd (bytes_ext (by simpa using he)) hst
            generalize cntT t (l.take k) = A at *
            generalize oth t (l.take k) = O at *
            have hol := ho
            unfold Owns at hol
            have hB3a := hB.alloc hsz (.cells #[.string (at_ l k)] 9)
            clear hst eT
            go_wp2_with (at_builtin; refine wpList_append_own _ rfl (.tmp 76) (.tmp 81) 22 rfl w4.heap.size 9 i0 (.string ByteArray.empty) 1 16 Try.underlying22 hi hz0 hz1 hz2 rfl (by decide) _ _ _ rfl (hol.alloc _) ⟨wr.heap.size, 0, none⟩ 1 1 [.string (at_ l k)] rfl rfl (cell_one_new _ _ _) (strs_one [at_ l k]) (by unfold maxLen; omega) (by omega) (by simp; omega) ?_)
            intro x5 w5 hown5 hgrow5 _
            have ho5 : Owns w5 w4.heap.size x5 (O ++ [at_ l k]) := by unfold Owns; rw [List.length_append, List.map_append]; exact hown5
            have hB5 : Below w4.heap.size w4 w5 := hB3a.grown hgrow5 (by simp; omega) (fun j hj => (hol.lt j hj).1)
            clear hown5 hgrow5 hol hB3a ho
            go_wp2_with fail
            go_roundw
            case rel => exact ⟨k + 1, hlt, by go_num, by rw [HC.out], by rw [HS.out]; exact ho5, hB5⟩
            case measure => simp [intOf]; omega
        · obtain rfl : k = l.length := by omega
          obtain ⟨wA, hwA⟩ : ∃ wA, wA = wr := ⟨_, rfl⟩
          subst hwA
          rw [List.take_length] at ho hcb hob ⊢
          have HB5 := HB4.trans (hB.mono hW4)
          have hW5 := HB5.size
          have hcx5 : ∀ k, k < X.length → wA.cell? ⟨bx, ox + k, none⟩ = some (.string (at_ X k)) := fun k hk => (hB.cell (p := ⟨bx, ox + k, none⟩) hbx).trans (hcx k hk)
          have hbx5 : bx < wA.heap.size := by omega
          have HO5 : Hid (Owns wA w4.heap.size _ (oth t l)) := ho
          have hof := reads_shape (owns_reads ho)
          obtain ⟨ao5, co5, hu5⟩ := hof
          subst hu5
          clear hcl hcx rl4 rx4 htk ho HB4 hB
          have ho6 : Owns (wA.alloc (.cells #[] 9)) wA.heap.size (.slice (some ⟨wA.heap.size, 0, none⟩) 0 0) [] := World.ownsRow_lit wA #[] 0 (Nat.le_refl _) (by simp) rfl
          have hB6 : Below wA.heap.size wA (wA.alloc (.cells #[] 9)) := (Below.refl _ _).alloc (Nat.le_refl _) _
          generalize hA : cntT t l = A at *
          have HA : Hid (cntT t l = A) := hA
          clear hA
          go_wp2_with fail
          go_loopw [13, 14] (fun o i w6 => ∃ k : Nat, k ≤ X.length ∧ i = .int .i64 (k : Int) ∧ Owns w6 wA.heap.size o (oth t (X.take k)) ∧ Below wA.heap.size wA w6) (fun _ i _ => X.length - (intOf i).toNat)
          case atStart => exact ⟨0, Nat.zero_le _, rfl, ho6, hB6⟩
          case round =>
            obtain ⟨k, hk, rfl, ho, hB⟩ := hrel
            clear ho6 hB6
            have hsz := hB.size
            have hob2 := oth_len t (X.take k)
            have htk : (X.take k).length = k := by simp; omega
            by_cases hlt : k < X.length
            · have hcell : wr.cell? ⟨bx, ox + k, none⟩ = some (.string (at_ X k)) := (hB.cell (p := ⟨bx, ox + k, none⟩) hbx5).trans (hcx5 k hlt)
              have hi1 : (k : Int) < (X.length : Int) := by omega
              have eT : X.take (k + 1) = X.take k ++ [at_ X k] := by rw [List.take_succ_eq_append_getElem hlt, at_lt hlt]
              clear hcx5
              by_cases hst : at_ X k = t
              · have HS : Hid (oth t (X.take (k + 1)) = oth t (X.take k)) := by show _ = _; rw [eT]; exact oth_snoc_hit hst
                have heq : ((at_ X k).toList == t.toList) = true := by rw [hst]; simp
                generalize oth t (X.take k) = O at *
                clear hst eT
                go_wp2_with fail
                go_roundw
                case rel => exact ⟨k + 1, hlt, by go_num, by rw [HS.out]; exact ho, hB⟩
                case measure => simp [intOf]; omega
              · have HS : Hid (oth t (X.take (k + 1)) = oth t (X.take k) ++ [at_ X k]) := by show _ = _; rw [eT]; exact oth_snoc_miss hst
                have heq : ((at_ X k).toList == t.toList) = false := by
                  cases he : ((at_ X k).toList == t.toList) with
                  | false => rfl
                  | true => exact absurd (bytes_ext (by simpa using he)) hst
                generalize oth t (X.take k) = O at *
                have hol := ho
                unfold Owns at hol
                have hB3a := hB.alloc hsz (.cells #[.string (at_ X k)] 9)
                clear hst eT
                go_wp2_with (at_builtin; refine wpList_append_own _ rfl (.tmp 96) (.tmp 101) 22 rfl wA.heap.size 9 i0 (.string ByteArray.empty) 1 16 Try.underlying22 hi hz0 hz1 hz2 rfl (by decide) _ _ _ rfl (hol.alloc _) ⟨wr.heap.size, 0, none⟩ 1 1 [.string (at_ X k)] rfl rfl (cell_one_new _ _ _) (strs_one [at_ X k]) (by unfold maxLen; omega) (by omega) (by simp; omega) ?_)
                intro x5 w5 hown5 hgrow5 _
                have ho5 : Owns w5 wA.heap.size x5 (O ++ [at_ X k]) := by unfold Owns; rw [List.length_append, List.map_append]; exact hown5
                have hB5 : Below wA.heap.size wA w5 := hB3a.grown hgrow5 (by simp; omega) (fun j hj => (hol.lt j hj).1)
                clear hown5 hgrow5 hol hB3a ho
                go_wp2_with fail
                go_roundw
                case rel => exact ⟨k + 1, hlt, by go_num, by rw [HS.out]; exact ho5, hB5⟩
                case measure => simp [intOf]; omega
            · obtain rfl : k = X.length := by omega
              rw [List.take_length, HF1.out] at ho
              have rO := owns_reads (owns_kept HO5.out hB)
              have rL := owns_reads ho
              have HB7 := HB5.trans (hB.mono hW5)
              have hW7 := HB7.size
              have hN3 := HF3.out
              have hN2 := HF2.out
              have hAl := cnt_le t l
              rw [HA.out] at hAl
              have hol : (oth t l).length ≤ 1048576 := by have := oth_len t l; omega
              unfold limD at hN3
              have hN0 : 0 ≤ N := by omega
              have hN1 : N ≤ 21 := by omega
              have hsum : ((X.length : Int) + N == (l.length : Int)) = true := beq_iff_eq.2 hN2
              have key : (c < 0 ∧ (c == 0) = false ∧ (A : Int) < -c ∧ (N == (A : Int)) = true) ∨ (c < 0 ∧ (c == 0) = false ∧ ¬ (A : Int) < -c ∧ (N == -c) = true) ∨ (0 ≤ c ∧ (c == 0) = true ∧ (N == (A : Int)) = true) ∨ (0 ≤ c ∧ (c == 0) = false ∧ (A : Int) < c ∧ (N == (A : Int)) = true) ∨ (0 ≤ c ∧ (c == 0) = false ∧ ¬ (A : Int) < c ∧ (N == c) = true) := by
                simp only [beq_iff_eq, beq_eq_false_iff_ne]
                by_cases hz : c = 0
                · rw [if_pos hz] at hN3; omega
                · rw [if_neg hz] at hN3; omega
              clear hN3 hN2 hcx5 htk hlt hAl hcb hob hob2 hB ho
              rcases key with ⟨k1, k2, k3, k4⟩ | ⟨k1, k2, k3, k4⟩ | ⟨k1, k2, k4⟩ | ⟨k1, k2, k3, k4⟩ | ⟨k1, k2, k3, k4⟩
              all_goals
                go_wp2_with fail
                refine (qx_true _ _ (oth t l) _ rL rO hol).mono ?_
                rintro e w8 ⟨rfl, hb8⟩
                have HB8 := below_step HB7 hW7 hb8
                clear hb8 HB7
                go_wp2_with fail
                go_ret
                exact ⟨rfl, HB8⟩

set_option maxRecDepth 100000 in
theorem lifted (os : Os) (started : os.Started) (H : Type) (enc : TypeId × Value → H) :
    ReturnsInHanded {} Try.checked os 14 .any (Rows.fnListDropSpec.pre6 enc Try.prog Try.f14 Rows.fnListDropRow.domain false) (Rows.fnListDropSpec.post enc Try.prog Try.f14 false true false false) := by
  refine returnsInHanded_of_change (C := Try.checked) own started (by kernel_rfl) Try.func14
    (ChangeSpec.witness6 (enc := enc) (C := Try.checked) false ⟨#[], #[.slice none 0 0], []⟩ 8 (by kernel_rfl) (by kernel_rfl) (by kernel_rfl) (by kernel_rfl)) ?_
  intro W base args ds gs before hval0 hW hcnd _
  have hval : ∀ (j : Nat) t v, Try.f14.params[j]? = some t → args[j]? = some v → Value.okWide Try.prog W .any base t v := hval0
  have hW' := hW
  obtain ⟨p, q, hA0, hV, rfl, hfz, hnd⟩ := hW
  have hA : DataW.TrodAll enc Try.prog W 0 (fun _ => true) true Try.f14.params.toList args.toList ds p := hA0
  rw [Try.params14] at hA hval
  obtain ⟨v0, vs0, d0, ds0, p0, q0, hargs, rfl, rfl, h0, r0⟩ := trodAll_cons hA
  obtain ⟨rfl, rfl, rfl⟩ := trodAll_nil r0
  obtain rfl : args = #[v0] := by cases args; simp_all
  obtain ⟨rfl, rfl⟩ := trodVars_none hV
  obtain ⟨a0, len0, cap0, rfl⟩ := okWide_slice Try.underlying39 (hval 0 39 v0 rfl rfl)
  have k0 := h0
  have lt0 : ∀ x ∈ p0, x.block < W.heap.size := by obtain ⟨m, hm⟩ := k0; exact DataW.trod_lt m _ _ _ hm
  obtain ⟨z0, w0⟩ : ∃ zs, IsBytes W (.slice a0 len0 cap0) zs := by
    obtain ⟨fuel, hf⟩ := h0
    rcases open_ints Try.underlying39 Try.underlying5 (by kernel_rfl) hf with ⟨hcs, _⟩ | ⟨x, ln, cp, zs, hcs, _, hl, hm, hz, _, hcell, hwz⟩
    · exact bytes_of_none (by simpa [Value.cells] using hcs)
    · exact bytes_of_some (by simpa [Value.cells] using hcs) hl hm (by simpa using hz) hcell hwz
  clear hA0 hval0
  refine (walk (.slice a0 len0 cap0) z0 W w0).mono fun e W' ⟨he, bel⟩ => ?_
  subst he
  exact ⟨_, rfl, _, _, _, [], _, [], hW', trodAll_mk1 (shut_bool Try.underlying4 _), (trodAll_cons_mk (Below.trod laidOut (by kernel_rfl) (of_decide_eq_true (by kernel_rfl)) k0 bel lt0) trodAll_mk0), rfl, bel.frame _, fun h => by cases h⟩

theorem over : Rows.fnListDropRow.holds Try.pinned (OpenSpec.ofChange Rows.fnListDropSpec) :=
  OpenClaim.holds_of_wide 14 Try.f14 rfl rfl rfl rfl rfl rfl rfl ⟨rfl, rfl, rfl, rfl, rfl⟩ rfl rfl rfl rfl rfl (by kernel_rfl) Try.func14 (by kernel_rfl)
    (of_decide_eq_true (by kernel_rfl)) (by unfold Func.isWrapper; first | (rw [if_pos (by decide +kernel)]; kernel_rfl) | (rw [if_neg (by decide +kernel)]; exact ⟨rfl, rfl⟩))
    (fun os started H enc _ => lifted os started H enc)

theorem proved : Rows.FnListDropSaid := over
end Go.Proofs.Ytjgnfneondlhhaa.fnListDrop
