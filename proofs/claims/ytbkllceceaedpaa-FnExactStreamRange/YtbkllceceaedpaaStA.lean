/- What is waited for: rows of five cells. How much is left of a purse behind them; a copy in new memory; two that are the same. -/
import Derived.Test.YtbkllceceaedpaaRwN
import Derived.Test.YtbkllceceaedpaaOwn
import Derived.Test.YtbkllceceaedpaaIdA
import Derived.Deep.RegionHeld3
namespace Go.Proofs.Ytbkllceceaedpaa
open Go.RowKit
set_option linter.unusedVariables false

structure Wt where
  t : Int
  n : Int
  who : ByteArray
  at_ : Int
  times : Int
def wtC (x : Wt) : List Value := [.int .i64 x.t, .int .i64 x.n, .string x.who, .int .i64 x.at_, .int .i64 x.times]
def wtZ : Wt := ⟨0, 0, ByteArray.empty, 0, 0⟩
abbrev wtV (x : Wt) : Value := .agg #[.int .i64 x.t, .int .i64 x.n, .string x.who, .int .i64 x.at_, .int .i64 x.times]
theorem wtC_len (x : Wt) : (wtC x).length = 5 := rfl
theorem wtC_one (x : Wt) : ∀ u ∈ wtC x, u.oneCell' = true := by
  intro u hu
  unfold wtC at hu
  simp only [List.mem_cons, List.not_mem_nil, or_false] at hu
  rcases hu with rfl | rfl | rfl | rfl | rfl <;> rfl
def wtAt (l : List Wt) (k : Nat) : Wt := l.getD k wtZ
theorem wtAt_some {l : List Wt} {k : Nat} (h : k < l.length) : l[k]? = some (wtAt l k) := by
  unfold wtAt; rw [List.getD_eq_getElem?_getD, List.getElem?_eq_getElem h]; rfl
theorem wtAt_get {l : List Wt} {k : Nat} (h : k < l.length) : wtAt l k = l[k] := by
  have := wtAt_some h; rw [List.getElem?_eq_getElem h] at this; exact (Option.some.inj this).symm
theorem wtAt_mem {l : List Wt} {k : Nat} (h : k < l.length) : wtAt l k ∈ l := by rw [wtAt_get h]; exact List.getElem_mem h
abbrev WtReads (w : World) (v : Value) (l : List Wt) : Prop := ReadsR wtC 5 w v l
abbrev WtOwns (w : World) (base : Nat) (v : Value) (l : List Wt) : Prop := OwnsR wtC 5 92 w base v l
abbrev WtOwn (w : World) (lo hi : Nat) (v : Value) (l : List Wt) : Prop := OwnR wtC 5 92 w lo hi v l
theorem wt_some {w : World} {ao : Option Addr} {cap : Nat} {l : List Wt} (h : WtReads w (.slice ao l.length cap) l) (h0 : 0 < l.length) :
    ∃ b off, ao = some ⟨b, off, none⟩ ∧ b < w.heap.size ∧ l.length ≤ cap ∧ cap ≤ maxLen ∧ ∀ k x, l[k]? = some x → w.rangeAt b (off + k * 5) (wtC x) := by
  rcases h with ⟨rfl, _⟩ | ⟨_, b, off, cap', hv, hb, hnc, hcm, hc⟩
  · simp at h0
  · simp only [Value.slice.injEq, true_and] at hv
    obtain ⟨h1, rfl⟩ := hv
    exact ⟨b, off, h1, hb, hnc, hcm, hc⟩
theorem wt_cells {w w' : World} {b off : Nat} {l : List Wt} (hc : ∀ k x, l[k]? = some x → w.rangeAt b (off + k * 5) (wtC x)) (hB : Below w.heap.size w w') (hb : b < w.heap.size) {k : Nat} (h : k < l.length) :
    w'.cell? ⟨b, off + k * 5, none⟩ = some (.int .i64 (wtAt l k).t) ∧ w'.cell? ⟨b, off + k * 5 + 1, none⟩ = some (.int .i64 (wtAt l k).n) ∧ w'.cell? ⟨b, off + k * 5 + 2, none⟩ = some (.string (wtAt l k).who) ∧ w'.cell? ⟨b, off + k * 5 + 3, none⟩ = some (.int .i64 (wtAt l k).at_) ∧ w'.cell? ⟨b, off + k * 5 + 4, none⟩ = some (.int .i64 (wtAt l k).times) := by
  have hr := hc k _ (wtAt_some h)
  have g : ∀ o v, (wtC (wtAt l k))[o]? = some v → w'.cell? ⟨b, off + k * 5 + o, none⟩ = some v := fun o v hv => (hB.cell (p := ⟨b, off + k * 5 + o, none⟩) hb).trans (hr o v hv)
  exact ⟨g 0 _ rfl, g 1 _ rfl, g 2 _ rfl, g 3 _ rfl, g 4 _ rfl⟩
structure WtFit (x : Wt) : Prop where
  t : (Lit.int .i64 x.t).wf = true
  n : (Lit.int .i64 x.n).wf = true
  who : x.who.size ≤ maxLen
  at_ : (Lit.int .i64 x.at_).wf = true
  times : (Lit.int .i64 x.times).wf = true
structure WtSmall (l : List Wt) : Prop where
  len : l.length ≤ 1048576
  each : ∀ x ∈ l, x.who.size ≤ 1048576

set_option maxHeartbeats 1000000 in
theorem szWait_any (x : Wt) (left : Int) (w : World) (hl : 0 ≤ left) (hl2 : left ≤ 1048576) (hs : x.who.size ≤ maxLen) :
    Calls Try.prog 103 #[wtV x, .int .i64 left] w fun e w' => (∃ n : Int, e = .returned (.int .i64 n) ∧ (n < 0 ∨ 0 ≤ n ∧ n ≤ left ∧ x.who.size ≤ 1048576)) ∧ Below w.heap.size w w' := by
  have hB : ∀ A, Below w.heap.size w (w.alloc A) := fun A => (Below.refl _ w).alloc (Nat.le_refl _) A
  unfold maxLen at hs
  rcases Int.lt_or_le (left - (x.who.size : Int)) 0 with h | h
  · go_enter Try.func103, Try.ntmps103
    go_wp2_with fail
    go_ret
    exact ⟨⟨_, rfl, .inl (by omega)⟩, hB _⟩
  · go_enter Try.func103, Try.ntmps103
    go_wp2_with fail
    go_ret
    exact ⟨⟨_, rfl, .inr ⟨h, by omega, by omega⟩⟩, hB _⟩
set_option maxHeartbeats 4000000 in
theorem szWaitS_any (v : Value) (l : List Wt) (left : Int) (w : World) (hr : WtReads w v l) (hf : ∀ x ∈ l, WtFit x) (hlen : l.length ≤ maxLen) (hl : 0 ≤ left) (hl2 : left ≤ 1048576) :
    Calls Try.prog 88 #[v, .int .i64 left] w fun x w' => (∃ n : Int, x = .returned (.int .i64 n) ∧ (n < 0 ∨ 0 ≤ n ∧ n ≤ left ∧ WtSmall l)) ∧ Below w.heap.size w w' := by
  obtain ⟨ao, cap, rfl⟩ := readsR_shape hr
  unfold maxLen at hlen
  rcases Int.lt_or_le (left - (l.length : Int)) 0 with h1 | h1
  · go_enter Try.func88, Try.ntmps88
    go_wp2_with fail
    go_ret
    exact ⟨⟨_, rfl, .inl (by omega)⟩, Below.refl _ _⟩
  · have HLEN : Hid (l.length ≤ 1048576) := by show _ ≤ _; omega
    go_enter Try.func88, Try.ntmps88
    go_wp2_with fail
    go_loopw [1, 5] (fun c i wr => ∃ (k : Nat) (n : Int), k ≤ l.length ∧ i = .int .i64 k ∧ c = .int .i64 n ∧ 0 ≤ n ∧ n ≤ left ∧ (∀ j, j < k → (wtAt l j).who.size ≤ 1048576) ∧ Below w.heap.size w wr) (fun _ i _ => l.length - (intOf i).toNat)
    case atStart => exact ⟨0, _, Nat.zero_le _, rfl, rfl, h1, by omega, fun j hj => by omega, Below.refl _ _⟩
    case round =>
      obtain ⟨k, n, hk, rfl, rfl, hn0, hn1, hsm, hB⟩ := hrel
      have HSM : Hid (∀ j, j < k → (wtAt l j).who.size ≤ 1048576) := hsm
      clear hsm
      by_cases hlt : k < l.length
      · obtain ⟨b, off, rfl, hb, hnc, hcm, hc⟩ := wt_some hr (by omega)
        obtain ⟨c0, c1, c2, c3, c4⟩ := wt_cells hc hB hb hlt
        have hk1 : (k : Int) < (l.length : Int) := by omega
        have hff := (hf _ (wtAt_mem hlt)).who
        clear hc hnc hcm
        go_wp2_with fail
        refine (szWait_any (wtAt l k) n _ hn0 (by omega) hff).mono ?_
        rintro x w3 ⟨⟨m, rfl, hm⟩, hb3⟩
        have hB3 := hB.trans (hb3.mono hB.size)
        clear hb3 hB c0 c1 c2 c3 c4 hff
        rcases hm with hm | ⟨hm0, hm1, hms⟩
        · go_wp2_with fail
          go_ret
          exact ⟨⟨_, rfl, .inl (by omega)⟩, hB3⟩
        · have HMS : Hid ((wtAt l k).who.size ≤ 1048576) := hms
          clear hms
          go_wp2_with fail
          go_roundw
          case rel => exact ⟨k + 1, m, hlt, by go_num, rfl, hm0, by omega, fun j hj => by
            by_cases e : j = k
            · rw [e]; exact HMS.out
            · exact HSM.out j (by omega), hB3⟩
          case measure => simp [intOf]; omega
      · obtain rfl : k = l.length := by omega
        go_wp2_with fail
        go_ret
        refine ⟨⟨n, rfl, .inr ⟨hn0, hn1, HLEN.out, fun x hx => ?_⟩⟩, hB⟩
        obtain ⟨j, hj, rfl⟩ := List.getElem_of_mem hx
        have := HSM.out j hj
        rwa [wtAt_get hj] at this

theorem toId_ab (a b : Int) (w : World) :
    Calls Try.prog 14 #[.agg #[.int .i64 a, .int .i64 b]] w fun e w' => e = .returned (.agg #[.int .i64 a, .int .i64 b]) ∧ Below w.heap.size w w' := toId_any (a, b) w
theorem eqId_ab (a b : Int) (w : World) :
    Calls Try.prog 46 #[.agg #[.int .i64 a, .int .i64 b], .agg #[.int .i64 a, .int .i64 b]] w fun e w' => e = .returned (.bool true) ∧ Below w.heap.size w w' :=
  (eqId_any (a, b) (a, b) w).mono fun e w' ⟨h, hb⟩ => ⟨by rw [h]; simp, hb⟩
end Go.Proofs.Ytbkllceceaedpaa
