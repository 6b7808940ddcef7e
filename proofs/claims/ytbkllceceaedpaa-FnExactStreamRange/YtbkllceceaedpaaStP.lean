/- Streams: what may be an id, a key, a time; the keys of items, groups and waits; texts compared. -/
import Derived.Test.YtbkllceceaedpaaStC
import Derived.Lib.Walk
import Derived.Lib.Bytealg
import Derived.Laws.Rows
namespace Go.Proofs.Ytbkllceceaedpaa
open Go.RowKit
set_option linter.unusedVariables false

def inB (n lo hi : Int) : Bool := decide (lo ≤ n) && decide (n ≤ hi)

theorem l1In_any (n lo hi : Int) (w : World) :
    Calls Try.prog 66 #[.int .i64 n, .int .i64 lo, .int .i64 hi] w fun e w' => e = .returned (.bool (inB n lo hi)) ∧ w' = w := by
  by_cases h1 : lo ≤ n
  · go_enter Try.func66, Try.ntmps66
    go_wp2
    go_ret
    exact ⟨by simp [inB, h1], rfl⟩
  · have h2 : n < lo := by omega
    have h3 : ¬ lo ≤ n := h1
    clear h1
    go_enter Try.func66, Try.ntmps66
    go_wp2
    go_ret
    exact ⟨by simp [inB]; omega, rfl⟩

def idOkB (a b : Int) : Bool := inB a 0 1000000 && inB b 0 1000000000
set_option maxHeartbeats 400000 in
theorem timeOk_any (a : Int) (w : World) : Calls Try.prog 70 #[.int .i64 a] w fun e w' => e = .returned (.bool (inB a 0 1000000)) ∧ w = w' := by
  rcases Int.lt_or_le a 0 with h | h
  · have h1 : decide ((0 : Int) ≤ a) = false := by simp; omega
    have HF : Hid (inB a 0 1000000 = false) := by show _ = _; unfold inB; rw [h1]; rfl
    clear h
    go_enter Try.func70, Try.ntmps70
    go_wp2_with fail
    go_ret
    exact ⟨id_ret_bool HF.out.symm, rfl⟩
  · have h1 : decide ((0 : Int) ≤ a) = true := by simpa using h
    have HF : Hid (inB a 0 1000000 = decide (a ≤ 1000000)) := by show _ = _; unfold inB; rw [h1]; rfl
    clear h
    go_enter Try.func70, Try.ntmps70
    go_wp2_with fail
    go_ret
    exact ⟨id_ret_bool HF.out.symm, rfl⟩
set_option maxHeartbeats 1000000 in
theorem idOk_any (a b : Int) (w : World) : Calls Try.prog 38 #[.agg #[.int .i64 a, .int .i64 b]] w fun e w' => e = .returned (.bool (idOkB a b)) ∧ Below w.heap.size w w' := by
  have hB : ∀ A, Below w.heap.size w (w.alloc A) := fun A => (Below.refl _ w).alloc (Nat.le_refl _) A
  have HA : Hid (∀ x, inB a 0 1000000 = x → idOkB a b = (x && inB b 0 1000000000)) := fun x h => by unfold idOkB; rw [h]
  cases hx : inB a 0 1000000 with
  | false =>
    go_enter Try.func38, Try.ntmps38
    go_wp2_with (go_at_call 70; refine (timeOk_any _ _).mono ?_; rw [hx]; rintro e w' ⟨rfl, rfl⟩)
    go_ret
    exact ⟨id_ret_bool (HA.out _ hx).symm, hB _⟩
  | true =>
    rcases Int.lt_or_le b 0 with h | h
    · have h1 : decide ((0 : Int) ≤ b) = false := by simp; omega
      have HF : Hid (inB b 0 1000000000 = false) := by show _ = _; unfold inB; rw [h1]; rfl
      clear h
      go_enter Try.func38, Try.ntmps38
      go_wp2_with (go_at_call 70; refine (timeOk_any _ _).mono ?_; rw [hx]; rintro e w' ⟨rfl, rfl⟩)
      go_ret
      exact ⟨id_ret_bool (by rw [HA.out _ hx, HF.out]; rfl), hB _⟩
    · have h1 : decide ((0 : Int) ≤ b) = true := by simpa using h
      have HF : Hid (inB b 0 1000000000 = decide (b ≤ 1000000000)) := by show _ = _; unfold inB; rw [h1]; rfl
      clear h
      go_enter Try.func38, Try.ntmps38
      go_wp2_with (go_at_call 70; refine (timeOk_any _ _).mono ?_; rw [hx]; rintro e w' ⟨rfl, rfl⟩)
      go_ret
      exact ⟨id_ret_bool (by rw [HA.out _ hx, HF.out]; rfl), hB _⟩
set_option maxHeartbeats 1000000 in
theorem l9Id_any (a b : Int) (w : World) : Calls Try.prog 32 #[.agg #[.int .i64 a, .int .i64 b]] w fun e w' => e = .returned (.bool (idOkB a b)) ∧ Below w.heap.size w w' := by
  have hB : ∀ A, Below w.heap.size w (w.alloc A) := fun A => (Below.refl _ w).alloc (Nat.le_refl _) A
  have HA : Hid (∀ x, inB a 0 1000000 = x → idOkB a b = (x && inB b 0 1000000000)) := fun x h => by unfold idOkB; rw [h]
  cases hx : inB a 0 1000000 with
  | false =>
    go_enter Try.func32, Try.ntmps32
    go_wp2_with (go_at_call 66; refine (l1In_any a 0 1000000 _).mono ?_; rw [hx]; rintro e w' ⟨rfl, rfl⟩)
    go_ret
    exact ⟨id_ret_bool (HA.out _ hx).symm, hB _⟩
  | true =>
    go_enter Try.func32, Try.ntmps32
    go_wp2_with (first | (go_at_call_of 66 (Value.int IntKind.i64 a); refine (l1In_any a 0 1000000 _).mono ?_; rw [hx]; rintro e w' ⟨rfl, rfl⟩) | (go_at_call_of 66 (Value.int IntKind.i64 b); refine (l1In_any b 0 1000000000 _).mono ?_; rintro e w' ⟨rfl, rfl⟩))
    go_ret
    exact ⟨id_ret_bool (by rw [HA.out _ hx]; rfl), hB _⟩

def keyOkB (s : ByteArray) : Bool := decide (1 ≤ s.size) && decide (s.size ≤ 12)
set_option maxHeartbeats 1000000 in
theorem keyOk_any (s : ByteArray) (w : World) (hs : s.size ≤ 1048576) : Calls Try.prog 76 #[.string s] w fun e w' => e = .returned (.bool (keyOkB s)) ∧ w = w' := by
  go_enter Try.func76, Try.ntmps76
  go_wp2_with fail
  all_goals go_ret
  all_goals exact ⟨ret_bool (by unfold keyOkB; rw [Bool.eq_iff_iff]; simp; omega), rfl⟩
set_option maxHeartbeats 1000000 in
theorem l4Key_any (s : ByteArray) (w : World) : Calls Try.prog 67 #[.string s] w fun e w' => e = .returned (.bool (keyOkB s)) ∧ w = w' := by
  go_enter Try.func67, Try.ntmps67
  go_wp2_with (go_at_call 66; refine (l1In_any _ _ _ _).mono ?_; rintro e w' ⟨rfl, rfl⟩)
  go_ret
  exact ⟨ret_bool (by unfold keyOkB inB; rw [Bool.eq_iff_iff]; simp; omega), rfl⟩

theorem compare_lt : ∀ (a b : List UInt8), decide (Lib.compareBytes a b < 0) = Op.bytesLess a b
  | [], [] => rfl
  | [], _ :: _ => rfl
  | _ :: _, [] => rfl
  | a :: r, b :: q => by
    have ih := compare_lt r q
    unfold Lib.compareBytes Op.bytesLess
    by_cases h1 : a < b
    · simp [h1]
    · by_cases h2 : b < a
      · have hne : (a == b) = false := by
          rw [beq_eq_false_iff_ne]; rintro rfl; exact h1 h2
        simp [h1, h2, hne]
      · have he : a = b := UInt8.le_antisymm (UInt8.not_lt.1 h2) (UInt8.not_lt.1 h1)
        subst he
        simp only [h1, if_false]
        rw [ih]; simp
/-- what strings.Compare says -/
def cmpT (a b : ByteArray) : Int := Lib.compareBytes a.data.toList b.data.toList
theorem cmpT_lt (a b : ByteArray) : decide (cmpT a b < 0) = Op.bytesLess a.toList b.toList := by
  unfold cmpT; rw [compare_lt, Lib.toList_data, Lib.toList_data]
theorem cmpT_bd : ∀ (a b : List UInt8), -1 ≤ Lib.compareBytes a b ∧ Lib.compareBytes a b ≤ 1
  | [], [] => by decide
  | [], _ :: _ => by unfold Lib.compareBytes; omega
  | _ :: _, [] => by unfold Lib.compareBytes; omega
  | a :: r, b :: q => by
    unfold Lib.compareBytes
    have := cmpT_bd r q
    split
    · omega
    · split <;> omega
set_option maxRecDepth 100000 in
theorem cmpString_any (a b : ByteArray) (w : World) :
    Calls Try.prog 93 #[.string a, .string b] w fun e w' => e = .returned (.int .i64 (cmpT a b)) ∧ w = w' := by
  go_enter Try.func93, Try.ntmps93
  go_wp2
  rw [run_callFunc_extern Try.func107 (by kernel_rfl) (by kernel_rfl) (by kernel_rfl) (e := Extern.BytealgCompare.compare) (by kernel_rfl), Lib.run_compareString]
  simp only [Result.andThen]
  rw [Oper.upon_value]
  go_wp2
  go_ret
  exact ⟨rfl, rfl⟩
theorem cmpStr_any (a b : ByteArray) (w : World) :
    Calls Try.prog 74 #[.string a, .string b] w fun e w' => e = .returned (.int .i64 (cmpT a b)) ∧ w = w' := by
  go_enter Try.func74, Try.ntmps74
  go_wp2_with fail
  refine (cmpString_any a b _).mono ?_
  rintro e w' ⟨rfl, rfl⟩
  go_wp2_with fail
  go_ret
  exact ⟨rfl, rfl⟩
set_option maxHeartbeats 1000000 in
theorem itemId_any (t n : Int) (a : Option Addr) (k c : Nat) (w : World) :
    Calls Try.prog 71 #[.agg #[.int .i64 t, .int .i64 n, .slice a k c]] w fun e w' => e = .returned (.agg #[.int .i64 t, .int .i64 n]) ∧ Below w.heap.size w w' := by
  go_enter Try.func71, Try.ntmps71
  go_wp2_with fail
  have h := heap_alloc_new (w.alloc (.cells #[.int .i64 t, .int .i64 n, .slice a k c] 59)) (.cells #[.int .i64 t, .int .i64 n] 30)
  rw [World.size_alloc] at h
  refine bodyPost_ret (results_cell_row rfl _ _ (w.heap.size + 1) 30 _ (0, 0) _ rfl h Try.underlying30 rfl (by kernel_rfl)) rfl ?_
  exact ⟨rfl, ((Below.refl _ w).alloc (Nat.le_refl _) _).alloc (by simp) _⟩
set_option maxHeartbeats 1000000 in
theorem waitId_any (t n : Int) (s : ByteArray) (x y : Int) (w : World) :
    Calls Try.prog 96 #[.agg #[.int .i64 t, .int .i64 n, .string s, .int .i64 x, .int .i64 y]] w fun e w' => e = .returned (.agg #[.int .i64 t, .int .i64 n]) ∧ Below w.heap.size w w' := by
  go_enter Try.func96, Try.ntmps96
  go_wp2_with fail
  have h := heap_alloc_new (w.alloc (.cells #[.int .i64 t, .int .i64 n, .string s, .int .i64 x, .int .i64 y] 92)) (.cells #[.int .i64 t, .int .i64 n] 30)
  rw [World.size_alloc] at h
  refine bodyPost_ret (results_cell_row rfl _ _ (w.heap.size + 1) 30 _ (0, 0) _ rfl h Try.underlying30 rfl (by kernel_rfl)) rfl ?_
  exact ⟨rfl, ((Below.refl _ w).alloc (Nat.le_refl _) _).alloc (by simp) _⟩
set_option maxHeartbeats 1000000 in
theorem groupName_any (s : ByteArray) (t n : Int) (a : Option Addr) (k c : Nat) (w : World) :
    Calls Try.prog 73 #[.agg #[.string s, .int .i64 t, .int .i64 n, .slice a k c]] w fun e w' => e = .returned (.string s) ∧ Below w.heap.size w w' := by
  go_enter Try.func73, Try.ntmps73
  go_wp2_with fail
  go_ret
  exact ⟨rfl, (Below.refl _ w).alloc (Nat.le_refl _) _⟩
theorem idLess_ab (a b c d : Int) (w : World) :
    Calls Try.prog 49 #[.agg #[.int .i64 a, .int .i64 b], .agg #[.int .i64 c, .int .i64 d]] w fun e w' => e = .returned (.bool (idLessB (a, b) (c, d))) ∧ Below w.heap.size w w' := implIdLess_any (a, b) (c, d) w
theorem specLess_ab (a b c d : Int) (w : World) :
    Calls Try.prog 33 #[.agg #[.int .i64 a, .int .i64 b], .agg #[.int .i64 c, .int .i64 d]] w fun e w' => e = .returned (.bool (idLessB (a, b) (c, d))) ∧ Below w.heap.size w w' := specIdLess_any (a, b) (c, d) w
theorem idOrder_ab (a b c d : Int) (w : World) :
    Calls Try.prog 72 #[.agg #[.int .i64 a, .int .i64 b], .agg #[.int .i64 c, .int .i64 d]] w fun e w' => e = .returned (.int .i64 (idOrd (a, b) (c, d))) ∧ Below w.heap.size w w' := idOrder_any (a, b) (c, d) w
set_option maxHeartbeats 1000000 in
theorem idWithin_any (a b c d : Int) (w : World) :
    Calls Try.prog 43 #[.agg #[.int .i64 a, .int .i64 b], .agg #[.int .i64 c, .int .i64 d]] w fun e w' => e = .returned (.bool (idOkB a b && !idLessB (c, d) (a, b))) ∧ Below w.heap.size w w' := by
  obtain ⟨w0, hW⟩ : ∃ W, (w.alloc (.cells #[.int .i64 a, .int .i64 b] 30)).alloc (.cells #[.int .i64 c, .int .i64 d] 30) = W := ⟨_, rfl⟩
  have hB0 : Below w.heap.size w w0 := by rw [← hW]; exact ((Below.refl _ w).alloc (Nat.le_refl _) _).alloc (by simp) _
  have hz0 : w.heap.size + 2 ≤ w0.heap.size := by rw [← hW]; simp
  have q0 : w0.heap[w.heap.size]? = some (.cells #[.int .i64 a, .int .i64 b] 30 (0, 0)) := by rw [← hW, Below.heap_alloc _ _ _ (by simp)]; exact heap_alloc_new w _
  have q1 : w0.heap[w.heap.size + 1]? = some (.cells #[.int .i64 c, .int .i64 d] 30 (0, 0)) := by
    rw [← hW]
    have := heap_alloc_new (w.alloc (.cells #[.int .i64 a, .int .i64 b] 30)) (.cells #[.int .i64 c, .int .i64 d] 30)
    rw [World.size_alloc] at this; exact this
  have a0 : w0.cell? ⟨w.heap.size, 0, none⟩ = some (.int .i64 a) := cellAt_row q0 0
  have a1 : w0.cell? ⟨w.heap.size, 1, none⟩ = some (.int .i64 b) := cellAt_row q0 1
  have Q0 : Hid _ := q0
  have Q1 : Hid _ := q1
  clear q0 q1
  go_enter Try.func43, Try.ntmps43
  go_wp2_with fail
  clear hW a0 a1
  refine (idOk_any a b _).mono ?_
  rintro e w1 ⟨rfl, hb1⟩
  have hB1 := hB0.trans (hb1.mono hB0.size)
  cases hx : idOkB a b with
  | false =>
    have HX : Hid (idOkB a b = false) := hx
    clear hx
    go_wp2_with fail
    go_ret
    exact ⟨by rw [HX.out]; rfl, hB1⟩
  | true =>
    have HX : Hid (idOkB a b = true) := hx
    have q0 := (hb1.block w.heap.size (by omega)).trans Q0.out
    have q1 := (hb1.block (w.heap.size + 1) (by omega)).trans Q1.out
    have a0 : w1.cell? ⟨w.heap.size, 0, none⟩ = some (.int .i64 a) := cellAt_row q0 0
    have a1 : w1.cell? ⟨w.heap.size, 1, none⟩ = some (.int .i64 b) := cellAt_row q0 1
    have a2 : w1.cell? ⟨w.heap.size + 1, 0, none⟩ = some (.int .i64 c) := cellAt_row q1 0
    have a3 : w1.cell? ⟨w.heap.size + 1, 1, none⟩ = some (.int .i64 d) := cellAt_row q1 1
    clear hx q0 q1 hb1
    go_wp2_with fail
    refine (idLess_ab c d a b _).mono ?_
    rintro e w2 ⟨rfl, hb2⟩
    have hB2 := hB1.trans (hb2.mono hB1.size)
    clear hb2 a0 a1 a2 a3
    go_wp2_with fail
    go_ret
    exact ⟨by rw [HX.out]; simp, hB2⟩
end Go.Proofs.Ytbkllceceaedpaa
