/- Proved: of all drawn bytes, cut at any byte: what breaks off is not whole yet, what is whole is told the same whatever stands behind, and what is none stays none; OrderGet tells as many bytes as its model. No condition. -/
import Derived.Test.YtnlkgghpebaenaaOrdT
import Derived.Test.YtnlkgghpebaenaaOrdP
import Derived.Test.YtnlkgghpebaenaaDrG
import Derived.ProofKit
import Derived.OpenShut
import Derived.ShutString
import Derived.ChangeOld
import Derived.Below
import Derived.Deep.RegionWith
namespace Go.Proofs.Ytnlkgghpebaenaa.fnOrderPart
open Go.ChangeShapes Go.WideShapes Go.ChangeAt Go.RowKit
open Go.ChangeMaps (open_string shut_string)
set_option linter.unusedVariables false

theorem own : ownKnob Try.prog.godebug = none := by kernel_rfl
theorem laidOut : laidOutB Try.prog = true := by kernel_rfl

theorem mach_gt : ∀ (l : List UInt8) (σ : MS) (p : Nat), 0 < (mach σ l p).2 → (p : Int) < (mach σ l p).2
  | [], σ, p => by rw [mach_nil]; intro h; exact absurd h (by decide)
  | c :: t, σ, p => by
    rw [mach_cons]
    split
    · split
      · intro _; show (p : Int) < (p : Int) + 1; omega
      · intro h; have := mach_gt t _ (p + 1) h; omega
    · intro h; exact absurd h (by decide)
theorem mach_part : ∀ (l : List UInt8) (σ : MS) (p k : Nat),
    (0 < (mach σ l p).2 → ((p : Int) + k < (mach σ l p).2 → (mach σ (l.take k) p).2 = 0) ∧ ((mach σ l p).2 ≤ (p : Int) + k → (mach σ (l.take k) p).2 = (mach σ l p).2)) ∧
    ((mach σ l p).2 ≤ 0 → (mach σ (l.take k) p).2 = 0 ∨ (mach σ (l.take k) p).2 = (mach σ l p).2)
  | [], σ, p, k => by
    rw [List.take_nil, mach_nil]
    exact ⟨fun h => absurd h (by decide), fun _ => .inl rfl⟩
  | c :: t, σ, p, 0 => by
    have hg := mach_gt (c :: t) σ p
    rw [List.take_zero, mach_nil]
    refine ⟨fun h => ⟨fun _ => rfl, fun h2 => ?_⟩, fun _ => .inl rfl⟩
    have := hg h; omega
  | c :: t, σ, p, k + 1 => by
    rw [List.take_succ_cons, mach_cons, mach_cons]
    split
    · split
      · refine ⟨fun _ => ⟨fun h => ?_, fun _ => rfl⟩, fun _ => .inr rfl⟩
        have h' : (p : Int) + ((k + 1 : Nat) : Int) < (p : Int) + 1 := h
        omega
      · have := mach_part t (stepS σ c) (p + 1) k
        have he : ((p + 1 : Nat) : Int) + (k : Int) = (p : Int) + ((k + 1 : Nat) : Int) := by omega
        rw [he] at this; exact this
    · exact ⟨fun h => absurd h (by decide), fun _ => .inr rfl⟩
/-- what is told of a part -/
theorem part_cases (s : ByteArray) (k : Nat) (r q : Int) (hr : r = (ordR s.data.toList).2) (hq : q = (ordR (s.data.toList.take k)).2) :
    (0 < r ∧ (k : Int) < r ∧ q = 0) ∨ (0 < r ∧ r ≤ (k : Int) ∧ q = r) ∨ (r ≤ 0 ∧ q = 0) ∨ (r ≤ 0 ∧ q = r ∧ q ≠ 0) := by
  have h := mach_part s.data.toList σ0 0 k
  rw [mach_ord, mach_ord, ← hr, ← hq] at h
  obtain ⟨h1, h2⟩ := h
  by_cases h0 : 0 < r
  · obtain ⟨a, b⟩ := h1 h0
    by_cases hk : (k : Int) < r
    · exact .inl ⟨h0, hk, a (by omega)⟩
    · exact .inr (.inl ⟨h0, by omega, b (by omega)⟩)
  · by_cases hz : q = 0
    · exact .inr (.inr (.inl ⟨by omega, hz⟩))
    · rcases h2 (by omega) with h | h
      · exact absurd h hz
      · exact .inr (.inr (.inr ⟨by omega, h, hz⟩))

set_option maxHeartbeats 8000000 in
theorem walk (v : Value) (zs : List Int) (v2 : Value) (zs2 : List Int) (w : World) (h : IsBytes w v zs) (h2 : IsBytes w v2 zs2) :
    Calls Try.prog 3 #[v, v2] w fun e w' => e = .returned (.bool true) ∧ Below w.heap.size w w' := by
  have hI := h
  obtain ⟨ao, cap, rfl, hlc, hcm, hzb, hz⟩ := h
  obtain ⟨ao2, cap2, rfl, hlc2, hcm2, hzb2, hz2⟩ := h2
  unfold maxLen at hcm hcm2
  clear hz hzb hz2 hzb2
  rcases Int.lt_or_le (1048576 : Int) (zs.length : Int) with hx | hx
  · go_enter Try.func3, Try.ntmps3
    go_wp2_with fail
    go_ret
    exact ⟨rfl, Below.refl _ _⟩
  · rcases Int.lt_or_le (1048576 : Int) (zs2.length : Int) with hx2 | hx2
    · go_enter Try.func3, Try.ntmps3
      go_wp2_with fail
      go_ret
      exact ⟨rfl, Below.refl _ _⟩
    · go_enter Try.func3, Try.ntmps3
      go_wp2_with fail
      refine (drawG_any _ zs _ hI).mono ?_
      rintro e w1 ⟨s, rfl, hs, HB1⟩
      have hW1 := HB1.size
      clear hI
      have hi := orderGet_any s w1 (by omega)
      rw [mach_ord] at hi
      go_wp2_with fail
      refine hi.mono ?_
      rintro e w2 ⟨u2, rfl, ho2, hb2⟩
      have HB2 := HB1.trans (hb2.mono hW1)
      have hW2 := HB2.size
      clear hb2 HB1 hi
      go_wp2_with fail
      refine (specGet_any s w2 (by omega)).mono ?_
      rintro e w3 ⟨u3, rfl, ho3, hb3⟩
      have HB3 := HB2.trans (hb3.mono hW2)
      have hW3 := HB3.size
      clear hb3 HB2
      have hk : zs2.length % (s.size + 1) ≤ s.size := Nat.lt_succ_iff.1 (Nat.mod_lt _ (by omega))
      have hm : ((zs2.length % (s.size + 1) : Nat) : Int) = (zs2.length : Int) % ((s.size : Int) + 1) := by simp
      have hm0 : 0 ≤ (zs2.length : Int) % ((s.size : Int) + 1) := by omega
      have hm1 : (zs2.length : Int) % ((s.size : Int) + 1) ≤ (s.size : Int) := by omega
      have hkz : ((s.extract 0 (zs2.length % (s.size + 1))).size) ≤ s.size := ext_le _ _ _
      have hp := part_cases s (zs2.length % (s.size + 1)) _ _ rfl rfl
      go_wp2_with fail
      have hi := orderGet_any (s.extract 0 (zs2.length % (s.size + 1))) w3 (by omega)
      rw [mach_ord, ext_take0, mkL_data] at hi
      rw [ext_take0]
      refine hi.mono ?_
      rintro e w4 ⟨u4, rfl, ho4, hb4⟩
      have HB4 := HB3.trans (hb4.mono hW3)
      clear hb4 HB3 hi hkz ho2 ho3 ho4
      rw [hm] at hp
      generalize (ordR s.data.toList).2 = r at *
      generalize (ordR (s.data.toList.take (zs2.length % (s.size + 1)))).2 = q at *
      rcases hp with ⟨h0, h1, rfl⟩ | ⟨h0, h1, rfl⟩ | ⟨h0, rfl⟩ | ⟨h0, rfl, h1⟩
      · go_wp2_with fail
        go_ret
        exact ⟨rfl, HB4⟩
      · go_wp2_with fail
        go_ret
        exact ⟨rfl, HB4⟩
      · go_wp2_with fail
        go_ret
        exact ⟨rfl, HB4⟩
      · go_wp2_with fail
        go_ret
        exact ⟨rfl, HB4⟩
set_option maxRecDepth 100000 in
theorem lifted (os : Os) (started : os.Started) (H : Type) (enc : TypeId × Value → H) :
    ReturnsInHanded {} Try.checked os 3 .any (Rows.fnOrderPartSpec.pre6 enc Try.prog Try.f3 Rows.fnOrderPartRow.domain false) (Rows.fnOrderPartSpec.post enc Try.prog Try.f3 false true false false) := by
  refine returnsInHanded_of_change (C := Try.checked) own started (by kernel_rfl) Try.func3
    (ChangeSpec.witness6 (enc := enc) (C := Try.checked) false ⟨#[], #[.slice none 0 0, .slice none 0 0], []⟩ 8 (by kernel_rfl) (by kernel_rfl) (by kernel_rfl) (by kernel_rfl)) ?_
  intro W base args ds gs before hval0 hW hcnd _
  have hval : ∀ (j : Nat) t v, Try.f3.params[j]? = some t → args[j]? = some v → Value.okWide Try.prog W .any base t v := hval0
  have hW' := hW
  obtain ⟨p, q, hA0, hV, rfl, hfz, hnd⟩ := hW
  have hA : DataW.TrodAll enc Try.prog W 0 (fun _ => true) true Try.f3.params.toList args.toList ds p := hA0
  rw [Try.params3] at hA hval
  obtain ⟨v0, vs0, d0, ds0, p0, q0, hargs, rfl, rfl, h0, r0⟩ := trodAll_cons hA
  obtain ⟨v1, vs1, d1, ds1, p1, q1, rfl, rfl, rfl, h1, r1⟩ := trodAll_cons r0
  obtain ⟨rfl, rfl, rfl⟩ := trodAll_nil r1
  obtain rfl : args = #[v0, v1] := by cases args; simp_all
  obtain ⟨rfl, rfl⟩ := trodVars_none hV
  obtain ⟨a0, len0, cap0, rfl⟩ := okWide_slice Try.underlying22 (hval 0 22 v0 rfl rfl)
  have k0 := h0
  have lt0 : ∀ x ∈ p0, x.block < W.heap.size := by obtain ⟨m, hm⟩ := k0; exact DataW.trod_lt m _ _ _ hm
  obtain ⟨z0, w0⟩ : ∃ zs, IsBytes W (.slice a0 len0 cap0) zs := by
    obtain ⟨fuel, hf⟩ := h0
    rcases open_ints Try.underlying22 Try.underlying5 (by kernel_rfl) hf with ⟨hcs, _⟩ | ⟨x, ln, cp, zs, hcs, _, hl, hm, hz, _, hcell, hwz⟩
    · exact bytes_of_none (by simpa [Value.cells] using hcs)
    · exact bytes_of_some (by simpa [Value.cells] using hcs) hl hm (by simpa using hz) hcell hwz
  obtain ⟨a1, len1, cap1, rfl⟩ := okWide_slice Try.underlying22 (hval 1 22 v1 rfl rfl)
  have k1 := h1
  have lt1 : ∀ x ∈ p1, x.block < W.heap.size := by obtain ⟨m, hm⟩ := k1; exact DataW.trod_lt m _ _ _ hm
  obtain ⟨z1, w1⟩ : ∃ zs, IsBytes W (.slice a1 len1 cap1) zs := by
    obtain ⟨fuel, hf⟩ := h1
    rcases open_ints Try.underlying22 Try.underlying5 (by kernel_rfl) hf with ⟨hcs, _⟩ | ⟨x, ln, cp, zs, hcs, _, hl, hm, hz, _, hcell, hwz⟩
    · exact bytes_of_none (by simpa [Value.cells] using hcs)
    · exact bytes_of_some (by simpa [Value.cells] using hcs) hl hm (by simpa using hz) hcell hwz
  clear hA0 hval0
  refine (walk (.slice a0 len0 cap0) z0 (.slice a1 len1 cap1) z1 W w0 w1).mono fun e W' ⟨he, bel⟩ => ?_
  subst he
  exact ⟨_, rfl, _, _, _, [], _, [], hW', trodAll_mk1 (shut_bool Try.underlying4 _), (trodAll_cons_mk (Below.trod laidOut (by kernel_rfl) (of_decide_eq_true (by kernel_rfl)) k0 bel lt0) (trodAll_cons_mk (Below.trod laidOut (by kernel_rfl) (of_decide_eq_true (by kernel_rfl)) k1 bel lt1) trodAll_mk0)), rfl, bel.frame _, fun h => by cases h⟩

theorem over : Rows.fnOrderPartRow.holds Try.pinned (OpenSpec.ofChange Rows.fnOrderPartSpec) :=
  OpenClaim.holds_of_wide 3 Try.f3 rfl rfl rfl rfl rfl rfl rfl ⟨rfl, rfl, rfl, rfl, rfl⟩ rfl rfl rfl rfl rfl (by kernel_rfl) Try.func3 (by kernel_rfl)
    (of_decide_eq_true (by kernel_rfl)) (by unfold Func.isWrapper; first | (rw [if_pos (by decide +kernel)]; kernel_rfl) | (rw [if_neg (by decide +kernel)]; exact ⟨rfl, rfl⟩))
    (fun os started H enc _ => lifted os started H enc)

theorem proved : Rows.FnOrderPartSaid := over
end Go.Proofs.Ytnlkgghpebaenaa.fnOrderPart
