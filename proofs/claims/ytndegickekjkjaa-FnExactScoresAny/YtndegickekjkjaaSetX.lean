/- The program's merged: two ascending lists gone through by yield, in order, each text once, with which of them has it. -/
import Derived.Test.YtndegickekjkjaaSetU
import Derived.RangeFuncNested
import Derived.RangeFuncBound
import Derived.RangeFuncCalls
import Derived.RangeFuncLeaves
import Derived.RangeFuncBox
import Derived.Shelf.Abstract
import Derived.Shelf.RegionOpen
import Derived.WalkKit
import Derived.OwnWalkIn
import Derived.TacticsInMore
import Derived.LoopNIn
import Derived.LoopIn
import Derived.Maps.AppendAt
import Derived.Sort.QuietIn
namespace Go.Proofs.Ytndegickekjkjaa
open Go.RowKit Go.Shelf

attribute [local go_sem] Oper.semAt_some

def mkM (n : Nat) : Int := if n = 1 then 1 else if n = 2 then 2 else 4
theorem mkM_cases (n : Nat) : mkM n = 1 ∨ mkM n = 2 ∨ mkM n = 4 := by
  unfold mkM; split
  · exact .inl rfl
  · split
    · exact .inr (.inl rfl)
    · exact .inr (.inr rfl)
abbrev encM (x : ByteArray × Nat) : Array Value := #[.string x.1, .int .i64 (mkM x.2)]
def KpM (n₀ Ba Bb : Nat) (W W' : World) : Prop := Below n₀ W W' ∧ (∀ v, Boxed W Ba 49 v → Boxed W' Ba 49 v) ∧ (∀ v, Boxed W Bb 49 v → Boxed W' Bb 49 v)
theorem kpM_t {n₀ Ba Bb : Nat} {A B C : World} (h : KpM n₀ Ba Bb A B) (k : KpM n₀ Ba Bb B C) : KpM n₀ Ba Bb A C := ⟨h.1.trans k.1, fun v hv => k.2.1 v (h.2.1 v hv), fun v hv => k.2.2 v (h.2.2 v hv)⟩
theorem boxed_putObj {W : World} {B l : Nat} {t : TypeId} {v : Value} {o : Obj} (o' : Obj) (h : Boxed W B t v) (hl : W.heap[l]? = some o) (hc : o.isCells = false) : Boxed (W.putObj l o') B t v := by
  refine h.kept (grownBy_putObj' W l o') (fun e => ?_)
  cases e
  rw [show W.heap[B]? = _ from h] at hl; cases hl; cases hc
theorem kpM_b {n₀ Ba Bb : Nat} {w : World} (hn : n₀ ≤ w.heap.size) (W : World) (l : Nat) (o o' : Obj) (hl : w.heap.size ≤ l) (h : W.heap[l]? = some o) (hc : o.isCells = false) (hw : o.isWalk = false) : KpM n₀ Ba Bb W (W.putObj l o') :=
  ⟨belowK_b hn W l o o' hl h hc hw, fun _ hv => boxed_putObj o' hv h hc, fun _ hv => boxed_putObj o' hv h hc⟩

theorem mrg_step1 {a b : List ByteArray} {p q : Nat} (hp : p < a.length) (h : q = b.length ∨ (q < b.length ∧ ltT (at_ a p) (at_ b q) = true)) : mrg (a.drop p) (b.drop q) = (at_ a p, 1) :: mrg (a.drop (p + 1)) (b.drop q) := by
  rw [List.drop_eq_getElem_cons hp, ← at_lt hp]
  rcases h with h | ⟨h1, h2⟩
  · rw [show b.drop q = [] by rw [h]; exact List.drop_length, mrg_left]
  · rw [List.drop_eq_getElem_cons h1, ← at_lt h1, mrg_both, if_pos h2]
theorem mrg_step2 {a b : List ByteArray} {p q : Nat} (hq : q < b.length) (h : p = a.length ∨ (p < a.length ∧ ltT (at_ a p) (at_ b q) = false ∧ ltT (at_ b q) (at_ a p) = true)) : mrg (a.drop p) (b.drop q) = (at_ b q, 2) :: mrg (a.drop p) (b.drop (q + 1)) := by
  rw [List.drop_eq_getElem_cons hq, ← at_lt hq]
  rcases h with h | ⟨h1, h2, h3⟩
  · rw [show a.drop p = [] by rw [h]; exact List.drop_length, mrg_right]
  · rw [List.drop_eq_getElem_cons h1, ← at_lt h1, mrg_both, if_neg (by rw [h2]; simp), if_pos h3]
theorem mrg_step4 {a b : List ByteArray} {p q : Nat} (hp : p < a.length) (hq : q < b.length) (h1 : ltT (at_ a p) (at_ b q) = false) (h2 : ltT (at_ b q) (at_ a p) = false) : mrg (a.drop p) (b.drop q) = (at_ a p, 4) :: mrg (a.drop (p + 1)) (b.drop (q + 1)) := by
  rw [List.drop_eq_getElem_cons hp, ← at_lt hp, List.drop_eq_getElem_cons hq, ← at_lt hq, mrg_both, if_neg (by rw [h1]; simp), if_neg (by rw [h2]; simp)]
theorem mrg_step0 {a b : List ByteArray} {p q : Nat} (hp : p = a.length) (hq : q = b.length) : mrg (a.drop p) (b.drop q) = [] := by
  rw [hp, hq, List.drop_length, List.drop_length, mrg_nil]

theorem belowD {n₀ q : Nat} {w w' w'' : World} (h : Below n₀ w w') (e : w'.drewN q = w'') : Below n₀ w w'' := by subst e; exact ⟨h.os, h.tape, h.output, h.size, h.block⟩
theorem boxedD {B q : Nat} {t : TypeId} {v : Value} {w w' : World} (h : Boxed w B t v) (e : w.drewN q = w') : Boxed w' B t v := by subst e; exact h
set_option maxRecDepth 100000 in
set_option maxHeartbeats 4000000 in
theorem merged1_in (n : Nat) (hn : 1 ≤ n) (l Ba Bb : Nat) (w0 : World) (va vb : Value) (a b : List ByteArray) (hra : Reads w0 va a) (hrb : Reads w0 vb b) (ha : a.length ≤ 1048576) (hb : b.length ≤ 1048576) (J Jx : List (ByteArray × Nat) → World → Prop)
    (hY : ∀ pre x W, J pre W → pre.length < (mrg a b).length → YieldAt Fence.wide (n - 1) Try.prog l (encM x) W fun e W' =>
      (e = .returned (.bool true) ∧ J (pre ++ [x]) W' ∧ KpM w0.heap.size Ba Bb W W') ∨ (e = .returned (.bool false) ∧ Jx (pre ++ [x]) W'))
    (W : World) (hJ : AbidesFrom W.heap.size J) (hB : Below w0.heap.size w0 W) (hba : Boxed W Ba 49 va) (hbb : Boxed W Bb 49 vb) (h0 : J [] W) :
    CallsIn Fence.wide n Try.prog 42 #[.func (.yield l) #[] #[], .pointer (some ⟨Ba, 0, none⟩), .pointer (some ⟨Bb, 0, none⟩)] W fun e W' => (∃ v, e = .returned v) ∧
      ((∃ ys, ys = mrg a b ∧ J ys W') ∨ (∃ pre, pre <+: mrg a b ∧ Jx pre W')) := by
  obtain ⟨aa, ca, rfl⟩ := reads_shape hra
  obtain ⟨ab, cb, rfl⟩ := reads_shape hrb
  refine callsIn_of_wp Try.func42 rfl trivial ?_ rfl
  simp only [Try.ntmps42, List.size_toArray, List.length_cons, List.length_nil, Nat.reduceAdd, Nat.reduceSub, Array.replicate_succ, Array.replicate_zero, List.push_toArray, List.append_toArray, List.nil_append, List.cons_append]
  gi_wp2
  gi_loopw [4, 5] (fun i j wr => ∃ (p q : Nat) (pre : List (ByteArray × Nat)), i = .int .i64 (p : Int) ∧ j = .int .i64 (q : Int) ∧ p ≤ a.length ∧ q ≤ b.length ∧ mrg a b = pre ++ mrg (a.drop p) (b.drop q) ∧ Below w0.heap.size w0 wr ∧ Boxed wr Ba 49 (.slice aa a.length ca) ∧ Boxed wr Bb 49 (.slice ab b.length cb) ∧ J pre wr)
    (fun i j _ => (a.length - (intOf i).toNat) + (b.length - (intOf j).toNat))
  case atStart =>
    exact ⟨0, 0, [], rfl, rfl, Nat.zero_le _, Nat.zero_le _, by simp, hB, hba, hbb, h0⟩
  case round =>
    obtain ⟨p, q, pre, rfl, rfl, hp, hq, hx, hB1, hba1, hbb1, hJ1⟩ := hrel
    have HX : Hid (mrg a b = pre ++ mrg (a.drop p) (b.drop q)) := hx
    clear hx hB hba hbb h0
    have hca := hba1.cell
    have hcb := hbb1.cell
    have hD : ∀ (q : Nat) (u : World), J pre u → J pre (u.drewN q) := fun q u h => hJ pre u (u.drewN q) none h ⟨rfl, rfl, rfl, Nat.le_refl _, fun _ _ _ => rfl⟩ (fun r e => by cases e)
    have HD : Hid (∀ (q : Nat) (u : World), J pre u → J pre (u.drewN q)) := hD
    clear hD
    by_cases hp1 : p < a.length
    · have hi1 : (p : Int) < (a.length : Int) := by omega
      have hne2 : ((p : Int) == (a.length : Int)) = false := by simp; omega
      obtain ⟨bl, off, rfl, hbl, hc⟩ := reads_someS hra (by omega)
      have HCP : Hid (w0.cell? ⟨bl, off + p, none⟩ = some (.string (at_ a p))) := hc p hp1
      have hcp : wr.cell? ⟨bl, off + p, none⟩ = some (.string (at_ a p)) := (hB1.cell (p := ⟨bl, off + p, none⟩) hbl).trans HCP.out
      clear hc
      by_cases hq1 : q < b.length
      · have hi2 : (q : Int) < (b.length : Int) := by omega
        obtain ⟨bl2, off2, rfl, hbl2, hc2⟩ := reads_someS hrb (by omega)
        have HCQ : Hid (w0.cell? ⟨bl2, off2 + q, none⟩ = some (.string (at_ b q))) := hc2 q hq1
        have hcq : wr.cell? ⟨bl2, off2 + q, none⟩ = some (.string (at_ b q)) := (hB1.cell (p := ⟨bl2, off2 + q, none⟩) hbl2).trans HCQ.out
        clear hc2
        have hne1 : ((q : Int) == (b.length : Int)) = false := by simp; omega
        cases hl : Op.bytesLess (at_ a p).toList (at_ b q).toList with
        | true =>
          have HST : Hid (mrg (a.drop p) (b.drop q) = (at_ a p, 1) :: mrg (a.drop (p + 1)) (b.drop q)) := mrg_step1 hp1 (.inr ⟨hq1, hl⟩)
          gi_wp2
          gi_quiet (fail)
          generalize hwq : World.drewN _ _ = w4
          have hJw4 : J pre w4 := by rw [← hwq]; exact HD.out _ _ hJ1
          have hBw4 := belowD hB1 hwq
          have hbaw4 := boxedD hba1 hwq
          have hbbw4 := boxedD hbb1 hwq
          have hcaw4 := hbaw4.cell
          have hcbw4 := hbbw4.cell
          clear hwq hJ1 hB1 hba1 hbb1
          have hcp4 : w4.cell? ⟨bl, off + p, none⟩ = some (.string (at_ a p)) := (hBw4.cell (p := ⟨bl, off + p, none⟩) hbl).trans HCP.out
          obtain ⟨fn, tmps, assign, body, hy, hR⟩ := hY pre (at_ a p, 1) _ hJw4 (by rw [HX.out, HST.out]; simp)
          simp only [encM, mkM, reduceIte, Nat.reduceEqDiff] at hy
          gi_wp2
          refine hR.mono ?_
          rintro e W3 (⟨rfl, hJ3, hk3⟩ | ⟨rfl, hJx3⟩)
          · gi_wp2
            go_roundw
            case rel => exact ⟨p + 1, q, pre ++ [(at_ a p, 1)], by go_num, by go_num, by omega, by omega, by rw [HX.out, HST.out]; simp, hBw4.trans hk3.1, hk3.2.1 _ hbaw4, hk3.2.2 _ hbbw4, hJ3⟩
            case measure => simp [intOf]; omega
          · gi_wp2
            refine bodyPost_ret (results_none rfl _ _ _) rfl ?_
            exact ⟨⟨_, rfl⟩, .inr ⟨pre ++ [(at_ a p, 1)], ⟨_, by rw [HX.out, HST.out, List.append_assoc]; rfl⟩, hJx3⟩⟩
        | false =>
          cases hl2 : Op.bytesLess (at_ b q).toList (at_ a p).toList with
          | true =>
            have HST : Hid (mrg (a.drop p) (b.drop q) = (at_ b q, 2) :: mrg (a.drop p) (b.drop (q + 1))) := mrg_step2 hq1 (.inr ⟨hp1, hl, hl2⟩)
            gi_wp2
            gi_quiet (fail)
            generalize hwq : World.drewN _ _ = w4
            have hJw4 : J pre w4 := by rw [← hwq]; exact HD.out _ _ hJ1
            have hBw4 := belowD hB1 hwq
            have hbaw4 := boxedD hba1 hwq
            have hbbw4 := boxedD hbb1 hwq
            have hcaw4 := hbaw4.cell
            have hcbw4 := hbbw4.cell
            clear hwq hJ1 hB1 hba1 hbb1
            have hcp4 : w4.cell? ⟨bl, off + p, none⟩ = some (.string (at_ a p)) := (hBw4.cell (p := ⟨bl, off + p, none⟩) hbl).trans HCP.out
            have hcq4 : w4.cell? ⟨bl2, off2 + q, none⟩ = some (.string (at_ b q)) := (hBw4.cell (p := ⟨bl2, off2 + q, none⟩) hbl2).trans HCQ.out
            gi_wp2
            gi_quiet (fail)
            generalize hwq : World.drewN _ _ = w5
            have hJw5 : J pre w5 := by rw [← hwq]; exact HD.out _ _ hJw4
            have hBw5 := belowD hBw4 hwq
            have hbaw5 := boxedD hbaw4 hwq
            have hbbw5 := boxedD hbbw4 hwq
            have hcaw5 := hbaw5.cell
            have hcbw5 := hbbw5.cell
            clear hwq hJw4 hBw4 hbaw4 hbbw4
            have hcq5 : w5.cell? ⟨bl2, off2 + q, none⟩ = some (.string (at_ b q)) := (hBw5.cell (p := ⟨bl2, off2 + q, none⟩) hbl2).trans HCQ.out
            obtain ⟨fn, tmps, assign, body, hy, hR⟩ := hY pre (at_ b q, 2) _ hJw5 (by rw [HX.out, HST.out]; simp)
            simp only [encM, mkM, reduceIte, Nat.reduceEqDiff] at hy
            gi_wp2
            refine hR.mono ?_
            rintro e W3 (⟨rfl, hJ3, hk3⟩ | ⟨rfl, hJx3⟩)
            · gi_wp2
              go_roundw
              case rel => exact ⟨p, q + 1, pre ++ [(at_ b q, 2)], by go_num, by go_num, by omega, by omega, by rw [HX.out, HST.out]; simp, hBw5.trans hk3.1, hk3.2.1 _ hbaw5, hk3.2.2 _ hbbw5, hJ3⟩
              case measure => simp [intOf]; omega
            · gi_wp2
              refine bodyPost_ret (results_none rfl _ _ _) rfl ?_
              exact ⟨⟨_, rfl⟩, .inr ⟨pre ++ [(at_ b q, 2)], ⟨_, by rw [HX.out, HST.out, List.append_assoc]; rfl⟩, hJx3⟩⟩
          | false =>
            have HST : Hid (mrg (a.drop p) (b.drop q) = (at_ a p, 4) :: mrg (a.drop (p + 1)) (b.drop (q + 1))) := mrg_step4 hp1 hq1 hl hl2
            gi_wp2
            gi_quiet (fail)
            generalize hwq : World.drewN _ _ = w4
            have hJw4 : J pre w4 := by rw [← hwq]; exact HD.out _ _ hJ1
            have hBw4 := belowD hB1 hwq
            have hbaw4 := boxedD hba1 hwq
            have hbbw4 := boxedD hbb1 hwq
            have hcaw4 := hbaw4.cell
            have hcbw4 := hbbw4.cell
            clear hwq hJ1 hB1 hba1 hbb1
            have hcp4 : w4.cell? ⟨bl, off + p, none⟩ = some (.string (at_ a p)) := (hBw4.cell (p := ⟨bl, off + p, none⟩) hbl).trans HCP.out
            have hcq4 : w4.cell? ⟨bl2, off2 + q, none⟩ = some (.string (at_ b q)) := (hBw4.cell (p := ⟨bl2, off2 + q, none⟩) hbl2).trans HCQ.out
            gi_wp2
            gi_quiet (fail)
            generalize hwq : World.drewN _ _ = w5
            have hJw5 : J pre w5 := by rw [← hwq]; exact HD.out _ _ hJw4
            have hBw5 := belowD hBw4 hwq
            have hbaw5 := boxedD hbaw4 hwq
            have hbbw5 := boxedD hbbw4 hwq
            have hcaw5 := hbaw5.cell
            have hcbw5 := hbbw5.cell
            clear hwq hJw4 hBw4 hbaw4 hbbw4
            have hcp5 : w5.cell? ⟨bl, off + p, none⟩ = some (.string (at_ a p)) := (hBw5.cell (p := ⟨bl, off + p, none⟩) hbl).trans HCP.out
            obtain ⟨fn, tmps, assign, body, hy, hR⟩ := hY pre (at_ a p, 4) _ hJw5 (by rw [HX.out, HST.out]; simp)
            simp only [encM, mkM, reduceIte, Nat.reduceEqDiff] at hy
            gi_wp2
            refine hR.mono ?_
            rintro e W3 (⟨rfl, hJ3, hk3⟩ | ⟨rfl, hJx3⟩)
            · gi_wp2
              go_roundw
              case rel => exact ⟨p + 1, q + 1, pre ++ [(at_ a p, 4)], by go_num, by go_num, by omega, by omega, by rw [HX.out, HST.out]; simp, hBw5.trans hk3.1, hk3.2.1 _ hbaw5, hk3.2.2 _ hbbw5, hJ3⟩
              case measure => simp [intOf]; omega
            · gi_wp2
              refine bodyPost_ret (results_none rfl _ _ _) rfl ?_
              exact ⟨⟨_, rfl⟩, .inr ⟨pre ++ [(at_ a p, 4)], ⟨_, by rw [HX.out, HST.out, List.append_assoc]; rfl⟩, hJx3⟩⟩
      · have HST : Hid (mrg (a.drop p) (b.drop q) = (at_ a p, 1) :: mrg (a.drop (p + 1)) (b.drop q)) := mrg_step1 hp1 (.inl (by omega))
        obtain rfl : q = b.length := by omega
        gi_wp2
        gi_quiet (fail)
        generalize hwq : World.drewN _ _ = w4
        have hJw4 : J pre w4 := by rw [← hwq]; exact HD.out _ _ hJ1
        have hBw4 := belowD hB1 hwq
        have hbaw4 := boxedD hba1 hwq
        have hbbw4 := boxedD hbb1 hwq
        have hcaw4 := hbaw4.cell
        have hcbw4 := hbbw4.cell
        clear hwq hJ1 hB1 hba1 hbb1
        have hcp4 : w4.cell? ⟨bl, off + p, none⟩ = some (.string (at_ a p)) := (hBw4.cell (p := ⟨bl, off + p, none⟩) hbl).trans HCP.out
        obtain ⟨fn, tmps, assign, body, hy, hR⟩ := hY pre (at_ a p, 1) _ hJw4 (by rw [HX.out, HST.out]; simp)
        simp only [encM, mkM, reduceIte, Nat.reduceEqDiff] at hy
        gi_wp2
        refine hR.mono ?_
        rintro e W3 (⟨rfl, hJ3, hk3⟩ | ⟨rfl, hJx3⟩)
        · gi_wp2
          go_roundw
          case rel => exact ⟨p + 1, b.length, pre ++ [(at_ a p, 1)], by go_num, by go_num, by omega, by omega, by rw [HX.out, HST.out]; simp, hBw4.trans hk3.1, hk3.2.1 _ hbaw4, hk3.2.2 _ hbbw4, hJ3⟩
          case measure => simp [intOf]; omega
        · gi_wp2
          refine bodyPost_ret (results_none rfl _ _ _) rfl ?_
          exact ⟨⟨_, rfl⟩, .inr ⟨pre ++ [(at_ a p, 1)], ⟨_, by rw [HX.out, HST.out, List.append_assoc]; rfl⟩, hJx3⟩⟩
    · obtain rfl : p = a.length := by omega
      have hi1 : ¬ (a.length : Int) < (a.length : Int) := by omega
      by_cases hq1 : q < b.length
      · have hi2 : (q : Int) < (b.length : Int) := by omega
        obtain ⟨bl2, off2, rfl, hbl2, hc2⟩ := reads_someS hrb (by omega)
        have HCQ : Hid (w0.cell? ⟨bl2, off2 + q, none⟩ = some (.string (at_ b q))) := hc2 q hq1
        clear hc2
        have hne1 : ((q : Int) == (b.length : Int)) = false := by simp; omega
        have HST : Hid (mrg (a.drop a.length) (b.drop q) = (at_ b q, 2) :: mrg (a.drop a.length) (b.drop (q + 1))) := mrg_step2 hq1 (.inl rfl)
        gi_wp2
        gi_quiet (fail)
        generalize hwq : World.drewN _ _ = w4
        have hJw4 : J pre w4 := by rw [← hwq]; exact HD.out _ _ hJ1
        have hBw4 := belowD hB1 hwq
        have hbaw4 := boxedD hba1 hwq
        have hbbw4 := boxedD hbb1 hwq
        have hcaw4 := hbaw4.cell
        have hcbw4 := hbbw4.cell
        clear hwq hJ1 hB1 hba1 hbb1
        gi_wp2
        gi_quiet (fail)
        generalize hwq : World.drewN _ _ = w5
        have hJw5 : J pre w5 := by rw [← hwq]; exact HD.out _ _ hJw4
        have hBw5 := belowD hBw4 hwq
        have hbaw5 := boxedD hbaw4 hwq
        have hbbw5 := boxedD hbbw4 hwq
        have hcaw5 := hbaw5.cell
        have hcbw5 := hbbw5.cell
        clear hwq hJw4 hBw4 hbaw4 hbbw4
        have hcq5 : w5.cell? ⟨bl2, off2 + q, none⟩ = some (.string (at_ b q)) := (hBw5.cell (p := ⟨bl2, off2 + q, none⟩) hbl2).trans HCQ.out
        obtain ⟨fn, tmps, assign, body, hy, hR⟩ := hY pre (at_ b q, 2) _ hJw5 (by rw [HX.out, HST.out]; simp)
        simp only [encM, mkM, reduceIte, Nat.reduceEqDiff] at hy
        gi_wp2
        refine hR.mono ?_
        rintro e W3 (⟨rfl, hJ3, hk3⟩ | ⟨rfl, hJx3⟩)
        · gi_wp2
          go_roundw
          case rel => exact ⟨a.length, q + 1, pre ++ [(at_ b q, 2)], by go_num, by go_num, by omega, by omega, by rw [HX.out, HST.out]; simp, hBw5.trans hk3.1, hk3.2.1 _ hbaw5, hk3.2.2 _ hbbw5, hJ3⟩
          case measure => simp [intOf]; omega
        · gi_wp2
          refine bodyPost_ret (results_none rfl _ _ _) rfl ?_
          exact ⟨⟨_, rfl⟩, .inr ⟨pre ++ [(at_ b q, 2)], ⟨_, by rw [HX.out, HST.out, List.append_assoc]; rfl⟩, hJx3⟩⟩
      · obtain rfl : q = b.length := by omega
        have hi2 : ¬ (b.length : Int) < (b.length : Int) := by omega
        have HST : Hid (mrg (a.drop a.length) (b.drop b.length) = []) := mrg_step0 rfl rfl
        gi_wp2
        go_end0
        exact ⟨⟨_, rfl⟩, .inl (by rw [HX.out, HST.out, List.append_nil]; exact hJ1)⟩
end Go.Proofs.Ytndegickekjkjaa
