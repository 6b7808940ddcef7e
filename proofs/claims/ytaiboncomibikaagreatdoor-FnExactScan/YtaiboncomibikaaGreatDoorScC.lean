/- Rows of Score: whether one fits, is ahead of another one, its name; the place of a name. -/
import Derived.Test.YtaiboncomibikaaGreatDoorScB
namespace Go.Proofs.YtaiboncomibikaaGreatDoor
open Go.RowKit

def scLt (a b : ByteArray) : Bool := Op.bytesLess a.toList b.toList
def scFitsB (x : ByteArray × Int) : Bool := decide (x.1.size ≤ 40) && (decide (-1000000000 ≤ x.2) && decide (x.2 ≤ 1000000000))
def scAheadB (x y : ByteArray × Int) : Bool := decide (x.2 < y.2) || (decide (x.2 = y.2) && scLt x.1 y.1)

set_option maxHeartbeats 1000000 in
theorem numberOk_any (n : Int) (w : World) :
    Calls Tryz.prog 115 #[.int .i64 n] w fun e w' => e = .returned (.bool (decide (-1000000000 ≤ n) && decide (n ≤ 1000000000))) ∧ w = w' := by
  rcases Int.lt_or_le n (-1000000000) with h | h
  · have h1 : decide ((-1000000000 : Int) ≤ n) = false := by simp; omega
    go_enter Tryz.func115, Tryz.ntmps115
    go_wp2_with fail
    go_ret
    exact ⟨ret_bool (by simp; omega), rfl⟩
  · have h1 : decide ((-1000000000 : Int) ≤ n) = true := by simp; omega
    go_enter Tryz.func115, Tryz.ntmps115
    go_wp2_with fail
    go_ret
    exact ⟨ret_bool (by simp [h]), rfl⟩

set_option maxHeartbeats 1000000 in
theorem scFits_any (x : (ByteArray × Int)) (w : World) :
    Calls Tryz.prog 113 #[.agg #[.string x.1, .int .i64 x.2]] w fun e w' => e = .returned (.bool (scFitsB x)) ∧ Below w.heap.size w w' := by
  have hB : ∀ A, Below w.heap.size w (w.alloc A) := fun A => (Below.refl _ w).alloc (Nat.le_refl _) A
  by_cases h : (x.1.size : Int) ≤ 40
  · have h1 : decide ((x.1.size : Int) ≤ 40) = true := by simpa using h
    have HF : Hid (x.1.size ≤ 40) := by show _ ≤ _; omega
    clear h
    go_enter Tryz.func113, Tryz.ntmps113
    go_wp2_with fail
    refine (numberOk_any x.2 _).mono ?_
    rintro e w' ⟨rfl, rfl⟩
    go_wp2_with fail
    go_ret
    exact ⟨ret_bool (by unfold scFitsB; rw [decide_eq_true HF.out]; simp), hB _⟩
  · have h1 : decide ((x.1.size : Int) ≤ 40) = false := by simpa using h
    have HF : Hid (¬ x.1.size ≤ 40) := by show ¬ _; omega
    clear h
    go_enter Tryz.func113, Tryz.ntmps113
    go_wp2_with fail
    go_ret
    exact ⟨ret_bool (by unfold scFitsB; rw [decide_eq_false HF.out]; simp), hB _⟩

set_option maxHeartbeats 1000000 in
theorem scName_any (x : (ByteArray × Int)) (w : World) :
    Calls Tryz.prog 112 #[.agg #[.string x.1, .int .i64 x.2]] w fun e w' => e = .returned (.string x.1) ∧ Below w.heap.size w w' := by
  go_enter Tryz.func112, Tryz.ntmps112
  go_wp2_with fail
  go_ret
  exact ⟨rfl, (Below.refl _ w).alloc (Nat.le_refl _) _⟩

set_option maxHeartbeats 1000000 in
theorem scAhead_any (x y : (ByteArray × Int)) (w : World) :
    Calls Tryz.prog 111 #[.agg #[.string x.1, .int .i64 x.2], .agg #[.string y.1, .int .i64 y.2]] w fun e w' => e = .returned (.bool (scAheadB x y)) ∧ Below w.heap.size w w' := by
  have hB : ∀ A B, Below w.heap.size w ((w.alloc A).alloc B) := fun A B => ((Below.refl _ w).alloc (Nat.le_refl _) A).alloc (by simp) B
  by_cases h : x.2 = y.2
  · have h1 : (x.2 != y.2) = false := by simp [h]
    have HF : Hid (x.2 = y.2) := h
    clear h
    go_enter Tryz.func111, Tryz.ntmps111
    go_wp2_with fail
    go_ret
    exact ⟨ret_bool (by unfold scAheadB scLt; rw [HF.out]; simp), hB _ _⟩
  · have h1 : (x.2 != y.2) = true := by simp [h]
    have HF : Hid (¬ x.2 = y.2) := h
    clear h
    go_enter Tryz.func111, Tryz.ntmps111
    go_wp2_with fail
    go_ret
    exact ⟨ret_bool (by unfold scAheadB; rw [decide_eq_false HF.out]; simp), hB _ _⟩

/-- the first place of a name; -1 if it is nowhere -/
def scIdx (l : List (ByteArray × Int)) (s : ByteArray) : Nat := l.findIdx (fun y => decide (y.1 = s))
def scPlc (l : List (ByteArray × Int)) (s : ByteArray) : Int := if scIdx l s < l.length then (scIdx l s : Int) else -1
def scNo (l : List (ByteArray × Int)) (s : ByteArray) (k : Nat) : Prop := ∀ j, j < k → (scAt l j).1 ≠ s
theorem scPlc_hit {l : List (ByteArray × Int)} {s : ByteArray} {k : Nat} (hk : k < l.length) (hn : scNo l s k) (h : (scAt l k).1 = s) : scIdx l s = k ∧ scPlc l s = (k : Int) := by
  have e : scIdx l s = k := by
    unfold scIdx
    rw [List.findIdx_eq hk]
    refine ⟨by rw [← scAt_get hk]; simpa using h, fun j hj => ?_⟩
    have := hn j hj
    rw [scAt_get (by omega)] at this
    simpa using this
  exact ⟨e, by unfold scPlc; rw [e, if_pos hk]⟩
theorem scPlc_none {l : List (ByteArray × Int)} {s : ByteArray} (hn : scNo l s l.length) : scPlc l s = -1 := by
  unfold scPlc
  rw [if_neg]
  unfold scIdx
  rw [List.findIdx_lt_length]
  rintro ⟨x, hx, h⟩
  obtain ⟨j, hj, rfl⟩ := List.getElem_of_mem hx
  have := hn j hj
  rw [scAt_get hj] at this
  exact this (by simpa using h)
theorem scNo_step {l : List (ByteArray × Int)} {s : ByteArray} {k : Nat} (hn : scNo l s k) (h : (scAt l k).1 ≠ s) : scNo l s (k + 1) := by
  intro j hj
  by_cases e : j = k
  · rw [e]; exact h
  · exact hn j (by omega)
theorem sc_sEq {a b : ByteArray} (h : (a.toList == b.toList) = true) : a = b := toList_eq (by simpa using h)
theorem sc_sNe {a b : ByteArray} (h : (a.toList == b.toList) = false) : a ≠ b := by rintro rfl; simp at h

set_option maxHeartbeats 4000000 in
theorem scPlace_any (v : Value) (l : List (ByteArray × Int)) (s : ByteArray) (w : World) (hr : ScReads w v l) (hlen : l.length ≤ 1048576) :
    Calls Tryz.prog 114 #[.agg #[v, .int .i64 16, .func (.func 111) #[] #[], .func (.func 112) #[] #[], .func (.func 113) #[] #[]], .string s] w fun e w' => e = .returned (.int .i64 (scPlc l s)) ∧ Below w.heap.size w w' := by
  obtain ⟨ao, cap, rfl⟩ := readsR_shape hr
  go_enter Tryz.func114, Tryz.ntmps114
  go_wp2_with fail
  have hB0 : Below w.heap.size w (w.alloc (.cells #[.slice ao l.length cap, .int .i64 16, .func (.func 111) #[] #[], .func (.func 112) #[] #[], .func (.func 113) #[] #[]] 143)) := (Below.refl _ w).alloc (Nat.le_refl _) _
  have hc2 : (w.alloc (.cells #[.slice ao l.length cap, .int .i64 16, .func (.func 111) #[] #[], .func (.func 112) #[] #[], .func (.func 113) #[] #[]] 143)).cell? ⟨w.heap.size, 3, none⟩ = some (.func (.func 112) #[] #[]) := by
    rw [cell_of_row _ _ _ _ _ _ (heap_alloc_new w _)]; rfl
  go_loopw [10] (fun i wr => ∃ k : Nat, k ≤ l.length ∧ i = .int .i64 k ∧ scNo l s k ∧ wr.cell? ⟨w.heap.size, 3, none⟩ = some (.func (.func 112) #[] #[]) ∧ Below w.heap.size w wr ∧ w.heap.size < wr.heap.size) (fun i _ => l.length - (intOf i).toNat)
  case atStart => exact ⟨0, Nat.zero_le _, rfl, fun j hj => by omega, hc2, hB0, by simp⟩
  case round =>
    obtain ⟨k, hk, rfl, hno, hcn, hB, hsz⟩ := hrel
    clear hB0 hc2
    by_cases hlt : k < l.length
    · obtain ⟨b, off, rfl, hb, _, _, hc⟩ := sc_some hr (by omega)
      have hcl := sc_cell_kept (sc_cells hc hlt) hB hb
      have hc0 := hcl.1
      have hc1 := hcl.2
      have hk1 : (k : Int) < (l.length : Int) := by omega
      clear hc hcl
      go_wp2_with fail
      refine (scName_any (scAt l k) _).mono ?_
      rintro e w3 ⟨rfl, hb3⟩
      have hz3 := hb3.size
      rw [World.size_alloc] at hz3
      have hB3 : Below w.heap.size w w3 := (hB.alloc (Nat.le_of_lt hsz) _).trans (hb3.mono (by simp; omega))
      have hcn3 : w3.cell? ⟨w.heap.size, 3, none⟩ = some (.func (.func 112) #[] #[]) :=
        (hb3.cell (p := ⟨w.heap.size, 3, none⟩) (by simp; omega)).trans (((Below.refl _ wr).alloc (Nat.le_refl _) _).cell (p := ⟨w.heap.size, 3, none⟩) hsz |>.trans hcn)
      clear hb3 hB hcn hc0 hc1
      by_cases he : (scAt l k).1 = s
      · have hs : ((scAt l k).1.toList == s.toList) = true := by rw [he]; simp
        have HP : Hid (scPlc l s = (k : Int)) := (scPlc_hit hlt hno he).2
        clear he
        go_wp2_with fail
        go_ret
        exact ⟨ret_int' HP.out.symm, hB3⟩
      · have hs : ((scAt l k).1.toList == s.toList) = false := by
          cases hh : ((scAt l k).1.toList == s.toList) with
          | false => rfl
          | true => exact absurd (sc_sEq hh) he
        have HP : Hid (scNo l s (k + 1)) := scNo_step hno he
        clear he
        go_wp2_with fail
        go_roundw
        case rel => exact ⟨k + 1, hlt, by go_num, HP.out, hcn3, hB3, by omega⟩
        case measure => simp [intOf]; omega
    · obtain rfl : k = l.length := by omega
      go_wp2_with fail
      go_ret
      exact ⟨ret_int' (scPlc_none hno).symm, hB⟩
end Go.Proofs.YtaiboncomibikaaGreatDoor
