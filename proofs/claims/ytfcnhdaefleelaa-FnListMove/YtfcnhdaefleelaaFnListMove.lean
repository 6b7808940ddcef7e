/- Proved: of every drawn lists and ends, a text that is moved is in the other list, and moved back leaves both; ListMove answers as its model. No condition. -/
import Derived.Test.YtfcnhdaefleelaaDrM
import Derived.Test.YtfcnhdaefleelaaMvI
import Derived.Test.YtfcnhdaefleelaaQx
import Derived.ProofKit
import Derived.OpenShut
import Derived.ShutString
import Derived.ChangeOld
import Derived.Below
namespace Go.Proofs.Ytfcnhdaefleelaa.fnListMove
open Go.ChangeShapes Go.WideShapes Go.ChangeAt Go.RowKit
open Go.ChangeMaps (open_string shut_string)
set_option linter.unusedVariables false

theorem own : ownKnob Try.prog.godebug = none := by kernel_rfl
theorem laidOut : laidOutB Try.prog = true := by kernel_rfl

theorem short_sub {l m : List ByteArray} (h : short l = true) (hs : ∀ s ∈ m, s ∈ l) : short m = true := by
  unfold short at *; rw [List.all_eq_true] at *; exact fun s hm => h s (hs s hm)
theorem okB_parts {l : List ByteArray} (h : okB l = true) : l.length ≤ 16 ∧ short l = true := by
  unfold okB at h; simpa using h
theorem okB_mk {l : List ByteArray} (h1 : l.length ≤ 16) (h2 : short l = true) : okB l = true := by unfold okB; simp [h1, h2]
theorem back {l : List ByteArray} {front : Bool} (h : popB l = true) : pushB (popL l front) [popT l front] = true ∧ pushed (popL l front) front [popT l front] = l ∧ (popL l front).length + 1 = l.length := by
  obtain ⟨hok, h0⟩ := popB_of h
  obtain ⟨h16, hsh⟩ := okB_parts hok
  have hlen : (popL l front).length + 1 = l.length := by cases front <;> simp [popL] <;> omega
  have hmem : popT l front ∈ l := by
    cases front
    · show at_ l (l.length - 1) ∈ l
      rw [at_lt (by omega)]; exact List.getElem_mem _
    · show at_ l 0 ∈ l
      rw [at_lt h0]; exact List.getElem_mem _
  have hsub : ∀ s ∈ popL l front, s ∈ l := by
    cases front
    · exact fun s hs => (List.dropLast_sublist l).mem hs
    · exact fun s hs => List.mem_of_mem_tail hs
  refine ⟨?_, ?_, hlen⟩
  · unfold pushB
    rw [okB_mk (by omega) (short_sub hsh hsub), okB_mk (by simp) (short_sub hsh (fun s hs => by rw [List.mem_singleton] at hs; rw [hs]; exact hmem))]
    simp; omega
  · cases front
    · show l.dropLast ++ [at_ l (l.length - 1)] = l
      rw [at_lt (by omega)]
      have := List.dropLast_concat_getLast (l := l) (by intro e; rw [e] at h0; simp at h0)
      rw [List.getLast_eq_getElem] at this; exact this
    · show [at_ l 0].reverse ++ l.tail = l
      rw [at_lt h0]
      cases l with
      | nil => simp at h0
      | cons a t => rfl
theorem put_pop {b : List ByteArray} {t : ByteArray} {g : Bool} : popL (pushed b g [t]) g = b ∧ popT (pushed b g [t]) g = t := by
  cases g
  · refine ⟨?_, ?_⟩
    · show (b ++ [t]).dropLast = b
      simp
    · show at_ (b ++ [t]) ((b ++ [t]).length - 1) = t
      rw [at_lt (by simp)]; simp
  · exact ⟨rfl, rfl⟩
theorem put_ok {b : List ByteArray} {t : ByteArray} {g : Bool} (h : pushB b [t] = true) : popB (pushed b g [t]) = true ∧ pushR b g [t] = pushed b g [t] ∧ (pushed b g [t]).length = b.length + 1 := by
  have h0 := h
  unfold pushB at h
  simp only [Bool.and_eq_true, decide_eq_true_eq, List.length_singleton] at h
  obtain ⟨h16, hsh⟩ := okB_parts h.1.1
  obtain ⟨_, hst⟩ := okB_parts h.1.2
  have hlen : (pushed b g [t]).length = b.length + 1 := pushed_len b g [t]
  have hall : short (pushed b g [t]) = true := by
    unfold short at *
    rw [List.all_eq_true] at *
    intro s hs
    have : s ∈ b ∨ s = t := by
      cases g
      · have : s ∈ b ++ [t] := hs
        simpa using this
      · have : s ∈ t :: b := hs
        rw [List.mem_cons] at this; exact this.symm
    rcases this with h | h
    · exact hsh s h
    · exact hst s (by rw [h]; simp)
  refine ⟨?_, ?_, hlen⟩
  · unfold popB; rw [okB_mk (by omega) hall]; simp; omega
  · unfold pushR; rw [h.1.1, if_pos rfl, h0, if_pos rfl]
theorem moveBack {a b : List ByteArray} {f : Bool} (g : Bool) (h : movB a b f = true) :
    movB (movR a b f g) (movA a b f) g = true ∧ movA (movR a b f g) (movA a b f) g = b ∧ movR (movR a b f g) (movA a b f) g f = a ∧ (movA a b f).length + 1 = a.length ∧ (movR a b f g).length = b.length + 1 := by
  obtain ⟨hA, hR⟩ := mov_yes g h
  have hh := h
  unfold movB at hh
  rw [Bool.and_eq_true] at hh
  obtain ⟨hp, hq⟩ := hh
  have hT : popTT a f = popT a f := by unfold popTT; rw [hp]; rfl
  have hL : popLL a f = popL a f := by unfold popLL; rw [hp]; rfl
  rw [hT] at hq hR
  rw [hL] at hA
  obtain ⟨k1, k2, k3⟩ := put_ok (g := g) hq
  obtain ⟨b1, b2, b3⟩ := back (front := f) hp
  have hR' : movR a b f g = pushed b g [popT a f] := hR.trans k2
  rw [hR', hA]
  have hT2 : popTT (pushed b g [popT a f]) g = popT a f := by unfold popTT; rw [k1, if_pos rfl]; exact put_pop.2
  have hL2 : popLL (pushed b g [popT a f]) g = b := by unfold popLL; rw [k1, if_pos rfl]; exact put_pop.1
  have hM : movB (pushed b g [popT a f]) (popL a f) g = true := by unfold movB; rw [k1, hT2, b1]; rfl
  refine ⟨hM, ?_, ?_, b3, k3⟩
  · rw [(mov_yes f hM).1, hL2]
  · rw [(mov_yes f hM).2, hT2]
    have hok : okB (popL a f) = true := by have := b1; unfold pushB at this; simp only [Bool.and_eq_true] at this; exact this.1.1
    unfold pushR; rw [hok, if_pos rfl, b1, if_pos rfl]; exact b2
theorem two_reads {w w' : World} {x y : Value} {l m : List ByteArray} (h : Two w w' x y l m) : Reads w' x l ∧ Reads w' y m := by
  obtain ⟨_, _, _, hx, hy⟩ := h
  exact ⟨own_reads hx, own_reads hy⟩

set_option maxRecDepth 100000 in
set_option maxHeartbeats 8000000 in
theorem walk (v : Value) (zs : List Int) (w : World) (h : IsBytes w v zs) :
    Calls Try.prog 3 #[v] w fun e w' => e = .returned (.bool true) ∧ Below w.heap.size w w' := by
  have hI := h
  obtain ⟨ao, cap, rfl, hlc, hcm, hzb, hz⟩ := h
  unfold maxLen at hcm
  clear hz hzb
  rcases Int.lt_or_le (1048576 : Int) (zs.length : Int) with hx | hx
  · go_enter Try.func3, Try.ntmps3
    go_wp2_with fail
    go_ret
    exact ⟨rfl, Below.refl _ _⟩
  · go_enter Try.func3, Try.ntmps3
    go_wp2_with fail
    refine (drawMove_any _ zs _ hI).mono ?_
    rintro e w1 ⟨u, a, x, b, f, g, mid, rfl, ho1, hmid, hx1, hmlt, hla, hlb, HB1⟩
    have ru1 := owns_reads ho1
    have rx1 := owns_reads hx1
    obtain ⟨au, cu, rfl⟩ := reads_shape ru1
    obtain ⟨ax, cx, rfl⟩ := reads_shape rx1
    clear hI ho1 hx1 hmid hmlt
    go_wp2_with fail
    refine (implMove_any _ _ a b f g _ ru1 rx1 (by omega) (by omega)).mono ?_
    rintro e w2 ⟨p, q, rfl, hT2, hb2⟩
    have HB2 := HB1.trans (hb2.mono HB1.size)
    have ru2 := reads_kept ru1 hb2
    have rx2 := reads_kept rx1 hb2
    obtain ⟨rp2, rq2⟩ := two_reads hT2
    clear hb2 HB1 ru1 rx1 hT2
    go_wp2_with fail
    refine (specMove_any _ _ a b f g _ ru2 rx2 (by omega) (by omega)).mono ?_
    rintro e w3 ⟨P, Q, rfl, hT3, hb3⟩
    have HB3 := HB2.trans (hb3.mono HB2.size)
    have ru3 := reads_kept ru2 hb3
    have rx3 := reads_kept rx2 hb3
    have rp3 := reads_kept rp2 hb3
    have rq3 := reads_kept rq2 hb3
    obtain ⟨rP3, rQ3⟩ := two_reads hT3
    have hlA := movA_len a b f (by omega)
    have hlR := movR_len a b f g (by omega)
    clear hb3 HB2 ru2 rx2 rp2 rq2 hT3
    cases hb : movB a b f with
    | false =>
      go_wp2_with fail
      refine (qx_true p P (movA a b f) _ rp3 rP3 hlA).mono ?_
      rintro e w4 ⟨rfl, hb4⟩
      have HB4 := HB3.trans (hb4.mono HB3.size)
      go_wp2_with fail
      refine (qx_true q Q (movR a b f g) _ (reads_kept rq3 hb4) (reads_kept rQ3 hb4) hlR).mono ?_
      rintro e w5 ⟨rfl, hb5⟩
      have HB5 := HB4.trans (hb5.mono HB4.size)
      have hb45 := hb4.trans (hb5.mono hb4.size)
      go_wp2_with fail
      refine (qx_true p P (movA a b f) _ (reads_kept rp3 hb45) (reads_kept rP3 hb45) hlA).mono ?_
      rintro e w6 ⟨rfl, hb6⟩
      have HB6 := HB5.trans (hb6.mono HB5.size)
      have hb46 := hb45.trans (hb6.mono hb45.size)
      go_wp2_with fail
      refine (qx_true q Q (movR a b f g) _ (reads_kept rq3 hb46) (reads_kept rQ3 hb46) hlR).mono ?_
      rintro e w7 ⟨rfl, hb7⟩
      have HB7 := HB6.trans (hb7.mono HB6.size)
      go_wp2_with fail
      go_ret
      exact ⟨rfl, HB7⟩
    | true =>
      obtain ⟨k1, k2, k3, k4, k5⟩ := moveBack g hb
      have K1 : Hid (movB (movR a b f g) (movA a b f) g = true) := k1
      have K2 : Hid (movA (movR a b f g) (movA a b f) g = b) := k2
      have K3 : Hid (movR (movR a b f g) (movA a b f) g f = a) := k3
      have hn1 : (((movA a b f).length : Int) + 1 == (a.length : Int)) = true := beq_iff_eq.2 (by omega)
      have hn2 : (((movR a b f g).length : Int) == (b.length : Int) + 1) = true := beq_iff_eq.2 (by omega)
      obtain ⟨ap, cp, rfl⟩ := reads_shape rp3
      obtain ⟨aq, cq, rfl⟩ := reads_shape rq3
      clear k1 k2 k3 k4 k5
      go_wp2_with fail
      refine (qx_true _ P (movA a b f) _ rp3 rP3 hlA).mono ?_
      rintro e w4 ⟨rfl, hb4⟩
      have HB4 := HB3.trans (hb4.mono HB3.size)
      go_wp2_with fail
      refine (qx_true _ Q (movR a b f g) _ (reads_kept rq3 hb4) (reads_kept rQ3 hb4) hlR).mono ?_
      rintro e w5 ⟨rfl, hb5⟩
      have HB5 := HB4.trans (hb5.mono HB4.size)
      have hb45 := hb4.trans (hb5.mono hb4.size)
      go_wp2_with fail
      refine (implMove_any _ _ (movR a b f g) (movA a b f) g f _ (reads_kept rq3 hb45) (reads_kept rp3 hb45) hlR hlA).mono ?_
      rw [K1.out]
      rintro e w6 ⟨z1, z2, rfl, hT6, hb6⟩
      rw [K2.out, K3.out] at hT6
      obtain ⟨r1, r2⟩ := two_reads hT6
      have HB6 := HB5.trans (hb6.mono HB5.size)
      have hb46 := hb45.trans (hb6.mono hb45.size)
      have ru6 := reads_kept ru3 hb46
      have rx6 := reads_kept rx3 hb46
      clear hT6 hb4 hb5 hb45 hb6 hb46 ru3 rx3 rp3 rq3 rP3 rQ3 HB3 HB4 HB5
      go_wp2_with fail
      refine (qx_true z1 _ b _ r1 rx6 (by omega)).mono ?_
      rintro e w7 ⟨rfl, hb7⟩
      have HB7 := HB6.trans (hb7.mono HB6.size)
      go_wp2_with fail
      refine (qx_true z2 _ a _ (reads_kept r2 hb7) (reads_kept ru6 hb7) (by omega)).mono ?_
      rintro e w8 ⟨rfl, hb8⟩
      have HB8 := HB7.trans (hb8.mono HB7.size)
      go_wp2_with fail
      go_ret
      exact ⟨rfl, HB8⟩

set_option maxRecDepth 100000 in
theorem lifted (os : Os) (started : os.Started) (H : Type) (enc : TypeId × Value → H) :
    ReturnsInHanded {} Try.checked os 3 .any (Rows.fnListMoveSpec.pre6 enc Try.prog Try.f3 Rows.fnListMoveRow.domain false) (Rows.fnListMoveSpec.post enc Try.prog Try.f3 false true false false) := by
  refine returnsInHanded_of_change (C := Try.checked) own started (by kernel_rfl) Try.func3
    (ChangeSpec.witness6 (enc := enc) (C := Try.checked) false ⟨#[], #[.slice none 0 0], []⟩ 8 (by kernel_rfl) (by kernel_rfl) (by kernel_rfl) (by kernel_rfl)) ?_
  intro W base args ds gs before hval0 hW hcnd _
  have hval : ∀ (j : Nat) t v, Try.f3.params[j]? = some t → args[j]? = some v → Value.okWide Try.prog W .any base t v := hval0
  have hW' := hW
  obtain ⟨p, q, hA0, hV, rfl, hfz, hnd⟩ := hW
  have hA : DataW.TrodAll enc Try.prog W 0 (fun _ => true) true Try.f3.params.toList args.toList ds p := hA0
  rw [Try.params3] at hA hval
  obtain ⟨v0, vs0, d0, ds0, p0, q0, hargs, rfl, rfl, h0, r0⟩ := trodAll_cons hA
  obtain ⟨rfl, rfl, rfl⟩ := trodAll_nil r0
  obtain rfl : args = #[v0] := by cases args; simp_all
  obtain ⟨rfl, rfl⟩ := trodVars_none hV
  obtain ⟨a0, len0, cap0, rfl⟩ := okWide_slice Try.underlying22 (hval 0 22 v0 rfl rfl)
  have k0 := h0
  have lt0 : ∀ x ∈ p0, x.block < W.heap.size := by obtain ⟨m, hm⟩ := k0; exact DataW.trod_lt m _ _ _ hm
  obtain ⟨z0, w0⟩ : ∃ zs, IsBytes W (.slice a0 len0 cap0) zs := by
    obtain ⟨fuel, hf⟩ := h0
    rcases open_ints Try.underlying22 Try.underlying5 (by kernel_rfl) hf with ⟨hcs, _⟩ | ⟨x, ln, cp, zs, hcs, _, hl, hm, hz, _, hcell, hwz⟩
    · exact bytes_of_none (by simpa [Value.cells] using hcs)
    · exact bytes_of_some (by simpa [Value.cells] using hcs) hl hm (by simpa using hz) hcell hwz
  clear hA0 hval0
  refine (walk (.slice a0 len0 cap0) z0 W w0).mono fun e W' ⟨he, bel⟩ => ?_
  subst he
  exact ⟨_, rfl, _, _, _, [], _, [], hW', trodAll_mk1 (shut_bool Try.underlying4 _), (trodAll_cons_mk (Below.trod laidOut (by kernel_rfl) (of_decide_eq_true (by kernel_rfl)) k0 bel lt0) trodAll_mk0), rfl, bel.frame _, fun h => by cases h⟩

theorem over : Rows.fnListMoveRow.holds Try.pinned (OpenSpec.ofChange Rows.fnListMoveSpec) :=
  OpenClaim.holds_of_wide 3 Try.f3 rfl rfl rfl rfl rfl rfl rfl ⟨rfl, rfl, rfl, rfl, rfl⟩ rfl rfl rfl rfl rfl (by kernel_rfl) Try.func3 (by kernel_rfl)
    (of_decide_eq_true (by kernel_rfl)) (by unfold Func.isWrapper; first | (rw [if_pos (by decide +kernel)]; kernel_rfl) | (rw [if_neg (by decide +kernel)]; exact ⟨rfl, rfl⟩))
    (fun os started H enc _ => lifted os started H enc)

theorem proved : Rows.FnListMoveSaid := over
end Go.Proofs.Ytfcnhdaefleelaa.fnListMove
