/- Proved: of every drawn text IntGet answers as its model; a number is read back from its figures: a reply of it is told with just these. No condition but that the listed tables of math/bits and internal/strconv hold what the program's text lays (the card ties them). -/
import Derived.Test.YtfnefecoecaokaaDoorRepI
import Derived.Test.YtfnefecoecaokaaDoorCards
import Derived.Test.YtfnefecoecaokaaDoorTie
import Derived.ProofKit
import Derived.OpenShut
import Derived.ShutString
import Derived.ChangeOld
import Derived.Below
import Derived.LaidMore
import Derived.Lay
import Derived.SevenTiedAt
import Derived.Stop.Joined
import Derived.Stop.LaidErr
namespace Go.Proofs.YtfnefecoecaokaaDoor.fnIntGet
open Go.ChangeShapes Go.WideShapes Go.ChangeAt Go.RowKit
open Go.ChangeMaps (open_string shut_string)
set_option linter.unusedVariables false

theorem own : ownKnob Tryd.prog.godebug = none := by kernel_rfl
theorem laidOut : laidOutB Tryd.prog = true := by kernel_rfl
theorem tabOf {W : World} (h : laidMetH Tryd.prog Rows.fnIntGetRow.laid W) : Tab W := by
  rw [MakeChecks.laidMetH_plain _ _ _ (by kernel_rfl)] at h
  exact Lib.tabIs_of_head (k := .u64) (zs := Lib.pow10Tab) (g := 3) (t := 141) (e := 118) (n := 20) (by kernel_rfl) (by kernel_rfl) Tryd.underlying141 Tryd.underlying118 (by kernel_rfl) (by kernel_rfl) (laidMet.tail (laidMet.tail h))
def ints10 : List ByteArray := [⟨#[48]⟩, ⟨#[49]⟩, ⟨#[45, 49]⟩, ⟨#[50]⟩, ⟨#[45, 50]⟩, ⟨#[53]⟩, ⟨#[49, 48, 48]⟩, ⟨#[45, 49, 48, 48]⟩, ⟨#[49, 48, 48, 48, 48, 48, 48, 48, 48, 48]⟩, ⟨#[120]⟩]
def rest9 : List ByteArray := [⟨#[]⟩, ⟨#[45]⟩, ⟨#[45, 48]⟩, ⟨#[48, 49]⟩, ⟨#[49, 48, 48, 48, 48, 48, 48, 48, 48, 49]⟩, ⟨#[45, 49, 48, 48, 48, 48, 48, 48, 48, 48, 48]⟩, ⟨#[57, 57, 57, 57, 57, 57, 57, 57, 57, 57, 57, 57, 57, 57]⟩, ⟨#[43, 53]⟩, ⟨#[53, 32]⟩]
/-- a text that is a number is what is told of it -/
def good (l : List UInt8) : Bool := !intB l || (decide (Lib.itoa (intV l) = l) && decide (l.length ≤ 100) && decide (-1000000000 ≤ intV l) && decide (intV l ≤ 1000000000))
theorem all_good : ((ints10 ++ rest9).all fun s => good s.data.toList && decide (s.size ≤ 100)) = true := by decide +kernel
theorem good_of {s : ByteArray} (h : s ∈ ints10 ++ rest9) : good s.data.toList = true ∧ s.size ≤ 100 := by
  have := List.all_eq_true.1 all_good s h
  rw [Bool.and_eq_true] at this
  exact ⟨this.1, by simpa using this.2⟩
theorem good_num {l : List UInt8} (h : good l = true) (hb : intB l = true) : Lib.itoa (intV l) = l ∧ l.length ≤ 100 ∧ -1000000000 ≤ intV l ∧ intV l ≤ 1000000000 := by
  unfold good at h; rw [hb] at h
  simp only [Bool.not_true, Bool.false_or, Bool.and_eq_true, decide_eq_true_eq] at h
  exact ⟨h.1.1.1, h.1.1.2, h.1.2, h.2⟩
/-- one of ten texts that are laid out on the spot -/
theorem of_ten (r p : Nat) (v : Value) (zs : List Int) (l : List ByteArray) (w : World) (h : RdAt w r v zs p) (hp : p ≤ 90000) (hl : l.length = 10) :
    Calls Tryd.prog 51 #[.pointer (some ⟨r, 0, none⟩), .slice (some ⟨w.heap.size, 0, none⟩) 10 10] (w.alloc (.cells (l.map Value.string).toArray 9)) fun e w' => ∃ s, e = .returned (.string s) ∧ s ∈ l ∧ RdAt w' r v zs (p + 1) ∧ w.grownBy w' (some r) := by
  have hB := (Below.refl w.heap.size w).alloc (Nat.le_refl _) (.cells (l.map Value.string).toArray 9)
  have ho : Owns (w.alloc (.cells (l.map Value.string).toArray 9)) w.heap.size (.slice (some ⟨w.heap.size, 0, none⟩) 10 10) l := by
    have := World.ownsRow_lit w (base := w.heap.size) (e := 9) (size := 1) (l.map Value.string).toArray 10 (Nat.le_refl _) (by decide) (by simp [hl])
    unfold Owns; rw [hl]; simpa using this
  refine (of_any r p v zs _ l w.heap.size _ (rd_grown h hB) (by omega) ho (rd_lt h) (by omega) (by omega)).mono ?_
  rintro e w2 ⟨s, rfl, hmem, hR2, hg2⟩
  exact ⟨s, rfl, hmem, hR2, grown_trans2 (World.grownBy_alloc w _ (some r)) hg2⟩
set_option maxHeartbeats 2000000 in
theorem l11Int_any (r p : Nat) (v : Value) (zs : List Int) (w : World) (h : RdAt w r v zs p) (hp : p ≤ 90000) :
    Calls Tryd.prog 52 #[.pointer (some ⟨r, 0, none⟩)] w fun e w' => ∃ s, e = .returned (.string s) ∧ s ∈ ints10 ∧ RdAt w' r v zs (p + 1) ∧ w.grownBy w' (some r) := by
  go_enter Tryd.func52, Tryd.ntmps52
  go_wp2_with fail
  refine (of_ten r p v zs ints10 _ h hp rfl).mono ?_
  rintro e w1 ⟨s, rfl, hm, hR1, hg1⟩
  go_wp2_with fail
  go_ret
  exact ⟨s, rfl, hm, hR1, hg1⟩
set_option maxHeartbeats 2000000 in
theorem drawI_any (v : Value) (zs : List Int) (w : World) (h : IsBytes w v zs) :
    Calls Tryd.prog 20 #[v] w fun e w' => ∃ s, e = .returned (.string s) ∧ s ∈ ints10 ++ rest9 ∧ Below w.heap.size w w' := by
  go_enter Tryd.func20, Tryd.ntmps20
  go_wp2_with fail
  refine (open_any v zs _ h).mono ?_
  rintro e w1 ⟨rfl, ⟨v1, zs1, hR1⟩, hz1, hB1⟩
  go_wp2_with fail
  refine (l11Int_any _ _ v1 zs1 _ hR1 (by omega)).mono ?_
  rintro e w2 ⟨t, rfl, hm, hR2, hg2⟩
  have hB2 := below_rd hB1 hg2
  clear hR1 hg2 hB1
  go_wp2_with fail
  refine (of_ten _ _ v1 zs1 (t :: rest9) _ hR2 (by omega) rfl).mono ?_
  rintro e w3 ⟨s, rfl, hs, hR3, hg3⟩
  have hB3 := below_rd hB2 hg3
  go_wp2_with fail
  go_ret
  refine ⟨s, rfl, ?_, hB3⟩
  rw [List.mem_append]
  rcases List.mem_cons.1 hs with e | e
  · left; rw [e]; exact hm
  · exact .inr e
theorem isLen (w : World) (v : Value) (zs : List Int) (h : IsBytes w v zs) : ∃ ao cap, v = .slice ao zs.length cap ∧ zs.length ≤ 9223372036854775807 := by
  obtain ⟨ao, cap, h1, h2, h3, _⟩ := h
  unfold maxLen at h3; exact ⟨ao, cap, h1, by omega⟩
theorem step {B : Nat} {a w w' : World} (h : Below B a w) (hB : B ≤ a.heap.size) (hb : Below w.heap.size w w') : Below B a w' := h.trans (hb.mono (Nat.le_trans hB h.size))
theorem told_is (s : ByteArray) : ofL (58 :: s.data.toList ++ crlf) = ByteArray.mk #[58] ++ s ++ ByteArray.mk #[13, 10] := by
  apply ByteArray.ext; apply Array.toList_inj.1; simp [ofL, crlf]
theorem replyIs (s : ByteArray) (w : World) (hb : intB s.data.toList = true) (hg : good s.data.toList = true) (ht : Tab w) :
    Calls Tryd.prog 11 #[.agg #[.int .i64 2, .int .i64 (intV s.data.toList), .string ByteArray.empty, .slice none 0 0, .slice none 0 0]] w fun e w' => e = .returned (.string (ByteArray.mk #[58] ++ s ++ ByteArray.mk #[13, 10])) ∧ Below w.heap.size w w' := by
  obtain ⟨h1, h2, h3, h4⟩ := good_num hg hb
  refine (replyNum_any (intV s.data.toList) w h3 h4 (by rw [h1]; exact h2) ht).mono ?_
  rintro e w' ⟨he, hB⟩
  rw [h1, told_is] at he
  exact ⟨he, hB⟩
theorem ne_ii (a : Int) : (a != a) = false := by simp
theorem eq_ii (a : Int) : (a == a) = true := by simp
theorem eq_ss (s : ByteArray) : (s.toList == s.toList) = true := by simp
set_option maxHeartbeats 4000000 in
theorem walk (v0 : Value) (zs : List Int) (w : World) (h : IsBytes w v0 zs) (ht : Tab w) :
    Calls Tryd.prog 5 #[v0] w fun e w' => e = .returned (.bool true) ∧ Below w.heap.size w w' := by
  obtain ⟨ao, cap, rfl, hlm⟩ := isLen w v0 zs h
  rcases Int.lt_or_le (1048576 : Int) (zs.length : Int) with h0 | h0
  · go_enter Tryd.func5, Tryd.ntmps5
    go_wp2_with fail
    go_ret
    exact ⟨rfl, Below.refl _ _⟩
  go_enter Tryd.func5, Tryd.ntmps5
  go_wp2_with fail
  refine (drawI_any _ zs _ h).mono ?_
  rintro e w1 ⟨s, rfl, hm, hB1⟩
  obtain ⟨hgood, hsz⟩ := good_of hm
  have HG : Hid (good s.data.toList = true) := hgood
  have HT1 : Hid (Tab w1) := tab_kept ht hB1
  clear hgood hm h ht
  have hne := ne_ii (intV s.data.toList)
  have heq := eq_ii (intV s.data.toList)
  have hml : s.size ≤ maxLen := by unfold maxLen; omega
  have HS := specInt_any s w1 hml
  have HI := implInt_any s w1 hml
  cases hb : intB s.data.toList with
  | false =>
    rw [hb] at HS HI
    clear hb
    generalize intV s.data.toList = V at *
    go_wp2_with fail
    refine HI.mono ?_
    rintro e w2 ⟨rfl, rfl⟩
    go_wp2_with fail
    refine HS.mono ?_
    rintro e w3 ⟨rfl, rfl⟩
    clear HS HI
    go_wp2_with fail
    go_ret
    exact ⟨rfl, hB1⟩
  | true =>
    have HR := replyIs s w1 hb HG.out HT1.out
    obtain ⟨_, _, hv0, hv1⟩ := good_num HG.out hb
    rw [hb] at HS HI
    clear hb HG HT1
    generalize intV s.data.toList = V at *
    have hss := eq_ss (ByteArray.mk #[58] ++ s ++ ByteArray.mk #[13, 10])
    go_wp2_with fail
    refine HI.mono ?_
    rintro e w2 ⟨rfl, rfl⟩
    go_wp2_with fail
    refine HS.mono ?_
    rintro e w3 ⟨rfl, rfl⟩
    clear HS HI
    go_wp2_with fail
    refine HR.mono ?_
    rintro e w4 ⟨rfl, hB4⟩
    have hB5 := step hB1 (Nat.le_refl _) hB4
    clear HR
    go_wp2_with fail
    go_ret
    exact ⟨by first | rfl | simp, hB5⟩

set_option maxRecDepth 100000 in
theorem lifted (os : Os) (started : os.Started) (H : Type) (enc : TypeId × Value → H) :
    ReturnsInHanded {} Tryd.checked os 5 .any (fun w args => (Rows.fnIntGetSpec.pre enc Tryd.prog Tryd.f5 Rows.fnIntGetRow.domain false w args ∧ laidMetH Tryd.prog Rows.fnIntGetRow.laid w) ∧ sizedMet enc Tryd.prog Tryd.f5 (OpenSpec.ofChange Rows.fnIntGetSpec) false w args)
      (Rows.fnIntGetSpec.post enc Tryd.prog Tryd.f5 false true false false) := by
  refine returnsInHanded_of_change_and (C := Tryd.checked) (X := fun w _ => laidMetH Tryd.prog Rows.fnIntGetRow.laid w) (fun _ _ _ hh h => h.of_heap hh) own started (by kernel_rfl) Tryd.func5
    (ChangeSpec.witness_shaped (enc := enc) (C := Tryd.checked) (os := os) (X := fun w _ => laidMetH Tryd.prog Rows.fnIntGetRow.laid w) false (World.laidAll Tryd.prog os Rows.fnIntGetRow.laid) #[.slice none 0 0] 8 (World.laidAll_os _ _ _)
      (World.shaped_of_ZipB (by kernel_rfl) (by kernel_rfl)) (by kernel_rfl) (by kernel_rfl) (by kernel_rfl)
      (by rw [MakeChecks.laidMetH_plain _ _ _ (by kernel_rfl)]; exact laidMet_laidAll _ (by kernel_rfl) (by kernel_rfl))) ?_
  intro W base args ds gs before hval0 hW hcnd _ hL _
  have hval : ∀ (j : Nat) t v, Tryd.f5.params[j]? = some t → args[j]? = some v → Value.okWide Tryd.prog W .any base t v := hval0
  have hW' := hW
  obtain ⟨p, q, hA0, hV, rfl, hfz, hnd⟩ := hW
  have hA : DataW.TrodAll enc Tryd.prog W 0 (fun _ => true) true Tryd.f5.params.toList args.toList ds p := hA0
  rw [Tryd.params5] at hA hval
  obtain ⟨v0, vs0, d0, ds0, p0, q0, hargs, rfl, rfl, h0, r0⟩ := trodAll_cons hA
  obtain ⟨rfl, rfl, rfl⟩ := trodAll_nil r0
  obtain rfl : args = #[v0] := by cases args; simp_all
  obtain ⟨rfl, rfl⟩ := trodVars_none hV
  obtain ⟨a0, len0, cap0, rfl⟩ := okWide_slice Tryd.underlying22 (hval 0 22 v0 rfl rfl)
  have k0 := h0
  have lt0 : ∀ x ∈ p0, x.block < W.heap.size := by obtain ⟨m, hm⟩ := k0; exact DataW.trod_lt m _ _ _ hm
  obtain ⟨z0, w0⟩ : ∃ zs, IsBytes W (.slice a0 len0 cap0) zs := by
    obtain ⟨fuel, hf⟩ := h0
    rcases open_ints Tryd.underlying22 Tryd.underlying5 (by kernel_rfl) hf with ⟨hcs, _⟩ | ⟨x, ln, cp, zs, hcs, _, hl, hm, hz, _, hcell, hwz⟩
    · exact bytes_of_none (by simpa [Value.cells] using hcs)
    · exact bytes_of_some (by simpa [Value.cells] using hcs) hl hm (by simpa using hz) hcell hwz
  clear hA0 hval0
  refine (walk (.slice a0 len0 cap0) z0 W w0 (tabOf hL)).mono fun e W' ⟨he, bel⟩ => ?_
  subst he
  exact ⟨_, rfl, _, _, _, [], _, [], hW', trodAll_mk1 (shut_bool Tryd.underlying4 _), (trodAll_cons_mk (Below.trod laidOut (by kernel_rfl) (of_decide_eq_true (by kernel_rfl)) k0 bel lt0) trodAll_mk0), rfl, bel.frame _, fun h => by cases h⟩

theorem over : Rows.fnIntGetRow.holds Tryd.pinned (OpenSpec.ofChange Rows.fnIntGetSpec) :=
  OpenClaim.holds_of_wide 5 Tryd.f5 rfl rfl rfl rfl rfl rfl rfl ⟨rfl, rfl, rfl, rfl, rfl⟩ rfl rfl rfl rfl rfl (by kernel_rfl) Tryd.func5 (by kernel_rfl)
    (of_decide_eq_true (by kernel_rfl)) (by unfold Func.isWrapper; first | (rw [if_pos (by decide +kernel)]; kernel_rfl) | (rw [if_neg (by decide +kernel)]; exact ⟨rfl, rfl⟩))
    (fun os started H enc _ => lifted os started H enc)

theorem proved : Rows.FnIntGetCardSaid :=
  Claim7.holds_tied_plain_at .later [] _ _ _ _ over (fun _ h => by cases h) (by kernel_rfl) (fun _ h => by cases h) fnIntGet_row_tie rfl ⟨rfl, rfl⟩ (by kernel_rfl) rfl
    (fun f fn hf hfn => by
      obtain rfl : f = 5 := Option.some.inj ((show Tryd.prog.funcNamed "loop.example/quincunx/laws.FnIntGet" = some 5 by kernel_rfl).symm.trans hf) |>.symm
      obtain rfl : fn = Tryd.f5 := (Option.some.inj (Tryd.func5.symm.trans hfn)).symm
      exact ⟨by kernel_rfl, fun j t ht => by
        rw [Tryd.params5] at ht
        have hm : t ∈ [22] := by simpa using Array.mem_of_getElem? ht
        have hall : ([22].all fun u => !Tryd.prog.wantsStandIn u) = true := by kernel_rfl
        exact (show Tryd.prog.wantsStandIn t = false by simpa using List.all_eq_true.1 hall t hm)⟩)
    (by kernel_rfl)
end Go.Proofs.YtfnefecoecaokaaDoor.fnIntGet
