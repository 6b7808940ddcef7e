/- The program's wordsOf: the words of a text, gone through by yield. -/
import Derived.Test.YtnpkegmkmhambaaWdB
import Derived.RangeFuncNested
import Derived.RangeFuncBound
import Derived.RangeFuncCalls
import Derived.RangeFuncLeaves
import Derived.RangeFuncBox
import Derived.Shelf.Abstract
import Derived.Shelf.RegionOpen
import Derived.WalkKit
import Derived.OwnWalkIn
import Derived.TacticsInMore
import Derived.LoopNIn
import Derived.LoopIn
import Derived.Maps.AppendAt
import Derived.Sort.QuietIn
namespace Go.Proofs.Ytnpkegmkmhambaa
open Go.RowKit Go.Shelf wd

attribute [local go_sem] Oper.semAt_some

/-- how many words of 64 bits a text has -/
def nW (s : ByteArray) : Nat := (s.size + 7) / 8
/-- a word and the place of its first bit; of any number, so that what goes through them need not ask -/
abbrev encW (s : ByteArray) (x : Nat) : Array Value := #[.int .i64 (64 * ((min x 5 : Nat) : Int)), .int .u64 (wf s (8 * min x 5) 8 : Int)]
def KpW (n₀ B : Nat) (W W' : World) : Prop := Below n₀ W W' ∧ (∀ v, Boxed W B 9 v → Boxed W' B 9 v)
theorem kpW_t {n₀ Ba : Nat} {A B C : World} (h : KpW n₀ Ba A B) (k : KpW n₀ Ba B C) : KpW n₀ Ba A C := ⟨h.1.trans k.1, fun v hv => k.2 v (h.2 v hv)⟩
theorem boxed_putObj {W : World} {B l : Nat} {t : TypeId} {v : Value} {o : Obj} (o' : Obj) (h : Boxed W B t v) (hl : W.heap[l]? = some o) (hc : o.isCells = false) : Boxed (W.putObj l o') B t v := by
  refine h.kept (grownBy_putObj' W l o') (fun e => ?_)
  cases e
  rw [show W.heap[B]? = _ from h] at hl; cases hl; cases hc
theorem kpW_b {n₀ Ba : Nat} {w : World} (hn : n₀ ≤ w.heap.size) (W : World) (l : Nat) (o o' : Obj) (hl : w.heap.size ≤ l) (h : W.heap[l]? = some o) (hc : o.isCells = false) (hw : o.isWalk = false) : KpW n₀ Ba W (W.putObj l o') :=
  ⟨belowK_b hn W l o o' hl h hc hw, fun _ hv => boxed_putObj o' hv h hc⟩
theorem byt_cut {s : ByteArray} {a : Nat} (k : Nat) : byt (s.extract a s.size) k = byt s (a + k) := by
  by_cases h : k < s.size - a
  · have h1 : k < (s.extract a s.size).size := by rw [ByteArray.size_extract, Nat.min_self]; exact h
    rw [byt_in h1, byt_in (by omega : a + k < s.size)]
    congr 1
    exact ByteArray.getElem_extract _
  · rw [byt_out (by rw [ByteArray.size_extract, Nat.min_self]; omega), byt_out (by omega)]
theorem wf_cut {s : ByteArray} {a : Nat} : ∀ j, wf (s.extract a s.size) 0 j = wf s a j
  | 0 => rfl
  | j + 1 => by rw [wf, wf, wf_cut j, byt_cut, Nat.zero_add]

theorem range_pre {m n : Nat} (h : m < n) : List.range (m + 1) <+: List.range n := by
  refine ⟨(List.range n).drop (m + 1), ?_⟩
  have e := List.take_append_drop (m + 1) (List.range n)
  rw [List.take_range, Nat.min_eq_left (by omega)] at e
  exact e
set_option maxRecDepth 100000 in
set_option maxHeartbeats 4000000 in
theorem words1_in (n : Nat) (hn : 1 ≤ n) (l B : Nat) (w0 : World) (s : ByteArray) (hs : s.size ≤ 40) (J Jx : List Nat → World → Prop)
    (hY : ∀ pre x W, J pre W → pre.length < nW s → YieldAt Fence.wide (n - 1) Try.prog l (encW s x) W fun e W' =>
      (e = .returned (.bool true) ∧ J (pre ++ [x]) W' ∧ KpW w0.heap.size B W W') ∨ (e = .returned (.bool false) ∧ Jx (pre ++ [x]) W'))
    (W : World) (_hJ : AbidesFrom W.heap.size J) (hB : Below w0.heap.size w0 W) (hb : Boxed W B 9 (.string s)) (h0 : J [] W) :
    CallsIn Fence.wide n Try.prog 44 #[.func (.yield l) #[] #[], .pointer (some ⟨B, 0, none⟩)] W fun e W' => (∃ v, e = .returned v) ∧
      ((∃ ys, ys = List.range (nW s) ∧ J ys W') ∨ (∃ pre, pre <+: List.range (nW s) ∧ Jx pre W')) := by
  refine callsIn_of_wp Try.func44 rfl trivial ?_ rfl
  simp only [Try.ntmps44, List.size_toArray, List.length_cons, List.length_nil, Nat.reduceAdd, Nat.reduceSub, Array.replicate_succ, Array.replicate_zero, List.push_toArray, List.append_toArray, List.nil_append, List.cons_append]
  gi_wp2
  gi_loopw [3] (fun i wr => ∃ (p : Nat), i = .int .i64 (64 * (p : Int)) ∧ p ≤ nW s ∧ Below w0.heap.size w0 wr ∧ Boxed wr B 9 (.string s) ∧ J (List.range p) wr) (fun i _ => 64 * nW s - (intOf i).toNat)
  case atStart =>
    exact ⟨0, rfl, Nat.zero_le _, hB, hb, h0⟩
  case round =>
    obtain ⟨p, rfl, hp, hB1, hb1, hJ1⟩ := hrel
    clear hB hb h0
    have hc := hb1.cell
    by_cases hp1 : p < nW s
    · have hi1 : 64 * (p : Int) < 8 * (s.size : Int) := by unfold nW at hp1; omega
      gi_wp2
      refine ⟨trivial, (callsIn_wide.2 (wordAt_any _ _)).mono ?_⟩
      rintro e w3 ⟨rfl, rfl⟩
      rw [show 64 * p / 8 = 8 * p by omega, wf_cut]
      obtain ⟨fn, tmps, assign, body, hy, hR⟩ := hY (List.range p) p _ hJ1 (by rw [List.length_range]; exact hp1)
      simp only [encW, show min p 5 = p by unfold nW at hp1; omega] at hy
      gi_wp2
      refine hR.mono ?_
      rintro e W3 (⟨rfl, hJ3, hk3⟩ | ⟨rfl, hJx3⟩)
      · gi_wp2
        go_roundw
        case rel => exact ⟨p + 1, by rw [show (64 * (p : Int) + 64) = 64 * ((p + 1 : Nat) : Int) by omega], by omega, hB1.trans hk3.1, hk3.2 _ hb1, by rw [List.range_succ]; exact hJ3⟩
        case measure => simp [intOf]; omega
      · gi_wp2
        refine bodyPost_ret (results_none rfl _ _ _) rfl ?_
        exact ⟨⟨_, rfl⟩, .inr ⟨List.range p ++ [p], by rw [← List.range_succ]; exact range_pre hp1, hJx3⟩⟩
    · obtain rfl : p = nW s := by omega
      have hi2 : ¬ 64 * (nW s : Int) < 8 * (s.size : Int) := by unfold nW; omega
      gi_wp2
      go_end0
      exact ⟨⟨_, rfl⟩, .inl hJ1⟩
theorem boxed_below {W W' : World} {n B : Nat} {t : TypeId} {v : Value} (h : Boxed W B t v) (hB : Below n W W') (hn : B < n) : Boxed W' B t v := (hB.block B hn).trans h
theorem words_stops (n : Nat) (hn : 1 ≤ n) (B : Nat) (w0 w : World) (s : ByteArray) (hs : s.size ≤ 40) (hB : Below w0.heap.size w0 w) (hb : Boxed w B 9 (.string s)) :
    SeqStopsK Fence.wide n Try.prog 44 #[.pointer (some ⟨B, 0, none⟩)] (encW s) (KpW w0.heap.size B) (fun ys => ys = List.range (nW s)) (fun pre => pre <+: List.range (nW s)) (nW s) w := fun l J Jx W hW hJ _ hY h0 =>
  words1_in n hn l B w0 s hs J Jx hY W hJ (hB.trans (hW.mono hB.size)) (boxed_below hb hW hb.lt) h0
set_option maxHeartbeats 1000000 in
theorem wordsOf_in (n : Nat) (s : ByteArray) (w : World) :
    CallsIn Fence.wide n Try.prog 26 #[.string s] w fun e w' => e = .returned (.func (.func 44) #[] #[.pointer (some ⟨w.heap.size, 0, none⟩)]) ∧ w' = w.alloc (.cells #[.string s] 9) := by
  refine callsIn_of_wp Try.func26 rfl trivial ?_ rfl
  simp only [Try.ntmps26, List.size_toArray, List.length_cons, List.length_nil, Nat.reduceAdd, Nat.reduceSub, Array.replicate_succ, Array.replicate_zero, List.push_toArray, List.append_toArray, List.nil_append, List.cons_append]
  gi_wp2
  go_ret
  exact ⟨rfl, rfl⟩
theorem range_last {p : List Nat} {x n : Nat} (h : p ++ [x] <+: List.range n) : x < n ∧ p = List.range x := by
  have hl : (p ++ [x]).length ≤ n := by have := h.length_le; simpa using this
  have e := List.prefix_iff_eq_take.1 h
  rw [List.take_range, Nat.min_eq_left hl, List.length_append, List.length_singleton, List.range_succ] at e
  have h1 := List.append_inj' e rfl
  have h2 : x = p.length := by simpa using h1.2
  subst h2
  rw [List.length_append, List.length_singleton] at hl
  exact ⟨by omega, h1.1⟩
end Go.Proofs.Ytnpkegmkmhambaa
