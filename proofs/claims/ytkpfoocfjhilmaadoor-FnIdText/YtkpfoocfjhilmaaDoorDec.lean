/- Decimals: the model's l1Dec below a hundred. -/
import Derived.Test.YtkpfoocfjhilmaaDoorChecked
import Derived.WalkKit
import Derived.WalkSpells
import Derived.Outline
import Derived.Laws.BytesArg
import Derived.Deep.RegionWith
import Derived.Deep.QuietTactic
import Derived.Below
import Derived.Lib.Strings
import Derived.Lib.Itoa
namespace Go.Proofs.YtkpfoocfjhilmaaDoor
open Go.RowKit

def decS : Nat → Nat → ByteArray
  | 0, n => strOfNums [48 + (n : Int)]
  | f + 1, n => if n < 10 then strOfNums [48 + (n : Int)] else decS f (n / 10) ++ strOfNums [48 + (n : Int) % 10]
theorem decS_size (f n : Nat) : (decS f n).size ≤ f + 1 := by
  induction f generalizing n with
  | zero => simp [decS, strOfNums_size]
  | succ f ih =>
    unfold decS; split
    · rw [strOfNums_size]; simp
    · rw [ByteArray.size_append, strOfNums_size]; have := ih (n / 10); simp; omega
theorem cv_any (x : Int) (W : World) (g : Nat) (hc : W.cell? ⟨g, 0, none⟩ = some (.int .u8 x)) : (convert 22 9 (.slice (some ⟨g, 0, none⟩) 1 1)).run Tryd.prog W = .ok (.string (strOfNums [x])) W := by
  refine run_convert_bytes_arg (P := Tryd.prog) W 22 5 Tryd.underlying22 Tryd.underlying5 g 0 1 1 [x] rfl (fun i hi => ?_) 9 Tryd.underlying9
  obtain rfl : i = 0 := by omega
  exact hc
theorem held_new {w2 w3 : World} {x : Value} {t : TypeId} (h3 : Below (w2.alloc (.cells #[x] t)).heap.size (w2.alloc (.cells #[x] t)) w3) : w3.cell? ⟨w2.heap.size, 0, none⟩ = some x := by
  rw [h3.cell (p := ⟨w2.heap.size, 0, none⟩) (by simp), cell_of_row _ _ _ _ _ _ (heap_alloc_new w2 _)]; rfl
theorem held_newD {w2 w3 : World} {x : Value} {t : TypeId} (h3 : Below (w2.alloc (.cells #[x] t)).drew.heap.size (w2.alloc (.cells #[x] t)).drew w3) : w3.cell? ⟨w2.heap.size, 0, none⟩ = some x :=
  held_new (w2 := w2) (x := x) (t := t) ⟨h3.os, h3.tape, h3.output, h3.size, h3.block⟩
theorem below_drew0 {w w3 : World} (h : Below w.drew.heap.size w.drew w3) : Below w.heap.size w w3 := ⟨h.os, h.tape, h.output, h.size, h.block⟩
theorem below_drew1 {w w3 : World} {o : Obj} (h : Below (w.alloc o).drew.heap.size (w.alloc o).drew w3) : Below w.heap.size w w3 :=
  ((Below.refl _ w).alloc (Nat.le_refl _) o).trans ((below_drew0 h).mono (by simp))
theorem wrap_mid {a : Int} (h0 : -2000000000000000000 ≤ a) (h1 : a ≤ 2000000000000000000) : IntKind.i64.wrap a = a := by
  unfold IntKind.wrap; simp [IntKind.signed, IntKind.bits]; omega
set_option maxRecDepth 100000 in
set_option maxHeartbeats 4000000 in
theorem l1Dec_any (f : Nat) : ∀ (n : Nat) (w : World), n < 10 ^ (f + 1) → f ≤ 17 →
    Calls Tryd.prog 20 #[.int .i64 (n : Int)] w fun e w' => e = .returned (.string (decS f n)) ∧ Below w.heap.size w w' := by
  have hcv := cv_any
  induction f with
  | zero =>
    intro n w hn _
    have hn' : (n : Int) < 10 := by omega
    go_enter Tryd.func20, Tryd.ntmps20
    go_wp2_with fail
    go_ret
    exact ⟨rfl, (Below.refl _ _).alloc (Nat.le_refl _) _⟩
  | succ f ih =>
    intro n w hn hf
    by_cases hlt : n < 10
    · have hn' : (n : Int) < 10 := by omega
      have HD : Hid (decS (f + 1) n = strOfNums [48 + (n : Int)]) := if_pos hlt
      clear ih
      go_enter Tryd.func20, Tryd.ntmps20
      go_wp2_with fail
      go_ret
      exact ⟨by rw [HD.out]; rfl, (Below.refl _ _).alloc (Nat.le_refl _) _⟩
    · have hn' : ¬ (n : Int) < 10 := by omega
      have hb : n < 1000000000000000000000 := Nat.lt_of_lt_of_le hn (Nat.pow_le_pow_right (by omega) (show f + 1 + 1 ≤ 21 by omega))
      have HD : Hid (decS (f + 1) n = decS f (n / 10) ++ strOfNums [48 + (n : Int) % 10]) := if_neg hlt
      have IH := fun W => ih (n / 10) W (by rw [Nat.pow_succ] at hn; omega) (by omega)
      have HI : Hid (∀ W : World, Calls Tryd.prog 20 #[.int .i64 ((n / 10 : Nat) : Int)] W fun e w' => e = .returned (.string (decS f (n / 10))) ∧ Below W.heap.size W w') := IH
      have hsz := decS_size f (n / 10)
      have hsum : ¬ 9223372036854775807 < (decS f (n / 10)).size + (strOfNums [48 + (n : Int) % 10]).size := by rw [strOfNums_size]; simp; omega
      have hq : ((n / 10 : Nat) : Int) = (n : Int) / 10 := by omega
      have hnb : (n : Int) ≤ 1000000000000000000 := by have : n < 10 ^ 18 := Nat.lt_of_lt_of_le hn (Nat.pow_le_pow_right (by omega) (by omega)); omega
      rw [hq] at HI
      have hwr : IntKind.i64.wrap ((n : Int) / 10) = (n : Int) / 10 := wrap_mid (by omega) (by omega)
      have hwr2 : IntKind.i64.wrap (48 + (n : Int) % 10) = 48 + (n : Int) % 10 := wrap_mid (by omega) (by omega)
      have htm : (n : Int).tmod 10 = (n : Int) % 10 := Int.tmod_eq_emod_of_nonneg (by omega)
      have hw8 : IntKind.u8.wrap (48 + (n : Int) % 10) = 48 + (n : Int) % 10 := by unfold IntKind.wrap; simp [IntKind.signed, IntKind.bits]; omega
      clear ih IH hn hb hq
      go_enter Tryd.func20, Tryd.ntmps20
      go_wp2_with fail
      go_region_with (go_at_call 20; refine (HI.out _).mono ?_; rintro e w3 ⟨rfl, hb3⟩; try have hk4 := held_newD hb3)
      all_goals
        have hB : Below w.heap.size w w3 := by first | exact below_drew0 hb3 | exact below_drew1 hb3
        have hBs := hB.size
        go_wp2_with fail
        go_ret
        exact ⟨by rw [HD.out]; rfl, by first | exact hB | exact hB.alloc hBs _⟩
end Go.Proofs.YtkpfoocfjhilmaaDoor
