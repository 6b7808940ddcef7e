/- Rows of Pair: whether one fits, is ahead of another one, its name; the place of a name. -/
import Derived.Test.YtbkllceceaedpaaPrB
namespace Go.Proofs.Ytbkllceceaedpaa
open Go.RowKit

def prLt (a b : ByteArray) : Bool := Op.bytesLess a.toList b.toList
def prFitsB (x : ByteArray × ByteArray) : Bool := decide (x.1.size ≤ 40) && decide (x.2.size ≤ 40)
def prAheadB (x y : ByteArray × ByteArray) : Bool := prLt x.1 y.1


set_option maxHeartbeats 1000000 in
theorem prFits_any (x : (ByteArray × ByteArray)) (w : World) :
    Calls Try.prog 110 #[.agg #[.string x.1, .string x.2]] w fun e w' => e = .returned (.bool (prFitsB x)) ∧ Below w.heap.size w w' := by
  have hB : ∀ A, Below w.heap.size w (w.alloc A) := fun A => (Below.refl _ w).alloc (Nat.le_refl _) A
  by_cases h : (x.1.size : Int) ≤ 40
  · have h1 : decide ((x.1.size : Int) ≤ 40) = true := by simpa using h
    have HF : Hid (x.1.size ≤ 40) := by show _ ≤ _; omega
    clear h
    go_enter Try.func110, Try.ntmps110
    go_wp2_with fail
    go_ret
    exact ⟨ret_bool (by unfold prFitsB; rw [decide_eq_true HF.out]; simp; omega), hB _⟩
  · have h1 : decide ((x.1.size : Int) ≤ 40) = false := by simpa using h
    have HF : Hid (¬ x.1.size ≤ 40) := by show ¬ _; omega
    clear h
    go_enter Try.func110, Try.ntmps110
    go_wp2_with fail
    go_ret
    exact ⟨ret_bool (by unfold prFitsB; rw [decide_eq_false HF.out]; simp), hB _⟩

set_option maxHeartbeats 1000000 in
theorem prName_any (x : (ByteArray × ByteArray)) (w : World) :
    Calls Try.prog 109 #[.agg #[.string x.1, .string x.2]] w fun e w' => e = .returned (.string x.1) ∧ Below w.heap.size w w' := by
  go_enter Try.func109, Try.ntmps109
  go_wp2_with fail
  go_ret
  exact ⟨rfl, (Below.refl _ w).alloc (Nat.le_refl _) _⟩

set_option maxHeartbeats 1000000 in
theorem prAhead_any (x y : (ByteArray × ByteArray)) (w : World) :
    Calls Try.prog 108 #[.agg #[.string x.1, .string x.2], .agg #[.string y.1, .string y.2]] w fun e w' => e = .returned (.bool (prAheadB x y)) ∧ Below w.heap.size w w' := by
  have hB : ∀ A B, Below w.heap.size w ((w.alloc A).alloc B) := fun A B => ((Below.refl _ w).alloc (Nat.le_refl _) A).alloc (by simp) B
  go_enter Try.func108, Try.ntmps108
  go_wp2_with fail
  go_ret
  exact ⟨rfl, hB _ _⟩

/-- the first place of a name; -1 if it is nowhere -/
def prIdx (l : List (ByteArray × ByteArray)) (s : ByteArray) : Nat := l.findIdx (fun y => decide (y.1 = s))
def prPlc (l : List (ByteArray × ByteArray)) (s : ByteArray) : Int := if prIdx l s < l.length then (prIdx l s : Int) else -1
def prNo (l : List (ByteArray × ByteArray)) (s : ByteArray) (k : Nat) : Prop := ∀ j, j < k → (prAt l j).1 ≠ s
theorem prPlc_hit {l : List (ByteArray × ByteArray)} {s : ByteArray} {k : Nat} (hk : k < l.length) (hn : prNo l s k) (h : (prAt l k).1 = s) : prIdx l s = k ∧ prPlc l s = (k : Int) := by
  have e : prIdx l s = k := by
    unfold prIdx
    rw [List.findIdx_eq hk]
    refine ⟨by rw [← prAt_get hk]; simpa using h, fun j hj => ?_⟩
    have := hn j hj
    rw [prAt_get (by omega)] at this
    simpa using this
  exact ⟨e, by unfold prPlc; rw [e, if_pos hk]⟩
theorem prPlc_none {l : List (ByteArray × ByteArray)} {s : ByteArray} (hn : prNo l s l.length) : prPlc l s = -1 := by
  unfold prPlc
  rw [if_neg]
  unfold prIdx
  rw [List.findIdx_lt_length]
  rintro ⟨x, hx, h⟩
  obtain ⟨j, hj, rfl⟩ := List.getElem_of_mem hx
  have := hn j hj
  rw [prAt_get hj] at this
  exact this (by simpa using h)
theorem prNo_step {l : List (ByteArray × ByteArray)} {s : ByteArray} {k : Nat} (hn : prNo l s k) (h : (prAt l k).1 ≠ s) : prNo l s (k + 1) := by
  intro j hj
  by_cases e : j = k
  · rw [e]; exact h
  · exact hn j (by omega)
theorem pr_sEq {a b : ByteArray} (h : (a.toList == b.toList) = true) : a = b := toList_eq (by simpa using h)
theorem pr_sNe {a b : ByteArray} (h : (a.toList == b.toList) = false) : a ≠ b := by rintro rfl; simp at h

set_option maxHeartbeats 4000000 in
theorem prPlace_any (v : Value) (l : List (ByteArray × ByteArray)) (s : ByteArray) (w : World) (hr : PrReads w v l) (hlen : l.length ≤ 1048576) :
    Calls Try.prog 111 #[.agg #[v, .int .i64 16, .func (.func 108) #[] #[], .func (.func 109) #[] #[], .func (.func 110) #[] #[]], .string s] w fun e w' => e = .returned (.int .i64 (prPlc l s)) ∧ Below w.heap.size w w' := by
  obtain ⟨ao, cap, rfl⟩ := readsR_shape hr
  go_enter Try.func111, Try.ntmps111
  go_wp2_with fail
  have hB0 : Below w.heap.size w (w.alloc (.cells #[.slice ao l.length cap, .int .i64 16, .func (.func 108) #[] #[], .func (.func 109) #[] #[], .func (.func 110) #[] #[]] 135)) := (Below.refl _ w).alloc (Nat.le_refl _) _
  have hc2 : (w.alloc (.cells #[.slice ao l.length cap, .int .i64 16, .func (.func 108) #[] #[], .func (.func 109) #[] #[], .func (.func 110) #[] #[]] 135)).cell? ⟨w.heap.size, 3, none⟩ = some (.func (.func 109) #[] #[]) := by
    rw [cell_of_row _ _ _ _ _ _ (heap_alloc_new w _)]; rfl
  go_loopw [10] (fun i wr => ∃ k : Nat, k ≤ l.length ∧ i = .int .i64 k ∧ prNo l s k ∧ wr.cell? ⟨w.heap.size, 3, none⟩ = some (.func (.func 109) #[] #[]) ∧ Below w.heap.size w wr ∧ w.heap.size < wr.heap.size) (fun i _ => l.length - (intOf i).toNat)
  case atStart => exact ⟨0, Nat.zero_le _, rfl, fun j hj => by omega, hc2, hB0, by simp⟩
  case round =>
    obtain ⟨k, hk, rfl, hno, hcn, hB, hsz⟩ := hrel
    clear hB0 hc2
    by_cases hlt : k < l.length
    · obtain ⟨b, off, rfl, hb, _, _, hc⟩ := pr_some hr (by omega)
      have hcl := pr_cell_kept (pr_cells hc hlt) hB hb
      have hc0 := hcl.1
      have hc1 := hcl.2
      have hk1 : (k : Int) < (l.length : Int) := by omega
      clear hc hcl
      go_wp2_with fail
      refine (prName_any (prAt l k) _).mono ?_
      rintro e w3 ⟨rfl, hb3⟩
      have hz3 := hb3.size
      rw [World.size_alloc] at hz3
      have hB3 : Below w.heap.size w w3 := (hB.alloc (Nat.le_of_lt hsz) _).trans (hb3.mono (by simp; omega))
      have hcn3 : w3.cell? ⟨w.heap.size, 3, none⟩ = some (.func (.func 109) #[] #[]) :=
        (hb3.cell (p := ⟨w.heap.size, 3, none⟩) (by simp; omega)).trans (((Below.refl _ wr).alloc (Nat.le_refl _) _).cell (p := ⟨w.heap.size, 3, none⟩) hsz |>.trans hcn)
      clear hb3 hB hcn hc0 hc1
      by_cases he : (prAt l k).1 = s
      · have hs : ((prAt l k).1.toList == s.toList) = true := by rw [he]; simp
        have HP : Hid (prPlc l s = (k : Int)) := (prPlc_hit hlt hno he).2
        clear he
        go_wp2_with fail
        go_ret
        exact ⟨ret_int' HP.out.symm, hB3⟩
      · have hs : ((prAt l k).1.toList == s.toList) = false := by
          cases hh : ((prAt l k).1.toList == s.toList) with
          | false => rfl
          | true => exact absurd (pr_sEq hh) he
        have HP : Hid (prNo l s (k + 1)) := prNo_step hno he
        clear he
        go_wp2_with fail
        go_roundw
        case rel => exact ⟨k + 1, hlt, by go_num, HP.out, hcn3, hB3, by omega⟩
        case measure => simp [intOf]; omega
    · obtain rfl : k = l.length := by omega
      go_wp2_with fail
      go_ret
      exact ⟨ret_int' (prPlc_none hno).symm, hB⟩
end Go.Proofs.Ytbkllceceaedpaa
