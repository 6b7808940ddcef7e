/- Are two lists of fields alike: the laws' helper. -/
import Derived.Test.YtfnbjjcelncliaaDrF
import Derived.Laws.StructEq
import Derived.Deep.QuietTactic
namespace Go.Proofs.Ytfnbjjcelncliaa
open Go.RowKit

theorem prqT : Try.prog.underlying 38 = some (.struct (Try.prog.fieldsOf 38)) := by kernel_rfl
theorem prqH : Try.prog.stoodInHeld 38 = false := by kernel_rfl
theorem prqG : Try.prog.eqGuardType Try.prog.depth 38 = false := by kernel_rfl
theorem prqF : (Try.prog.fieldsOf 38).toList.map (fun f => (f.type, f.offset, f.name != "_")) = [(9, 0, true), (9, 1, true)] := by kernel_rfl
theorem pr_eqFields (d : Nat) (s : ByteArray) (n : ByteArray) (w : World) : (Op.eqFields (d + 1) #[.string s, .string n] #[.string s, .string n] (Try.prog.fieldsOf 38).toList).run Try.prog w = .ok true w := by
  have h := prqF
  generalize (Try.prog.fieldsOf 38).toList = fs at h
  match fs, h with
  | [], h => simp at h
  | [a], h => simp at h
  | [a, b], h =>
    simp only [List.map_cons, List.map_nil, List.cons.injEq, Prod.mk.injEq, and_true] at h
    obtain ⟨⟨a1, a2, a3⟩, b1, b2, b3⟩ := h
    simp [Op.eqFields, a1, a2, b1, b2, part, Try.isAgg9, run_equalIn_string _ _ _ _ _ Try.underlying9]
  | a :: b :: c :: r, h => simp at h
theorem pr_neq_self (s : ByteArray) (n : ByteArray) (w : World) : (binOp .neq 38 (.agg #[.string s, .string n]) (.agg #[.string s, .string n])).run Try.prog w = .ok (.bool false) w := by
  rw [run_neq_struct, run_equalIn_agg w 9999 _ _ _ prqT prqH, pr_eqFields 9998]; rfl
theorem pr_eql_self (s : ByteArray) (n : ByteArray) (w : World) : (binOp .eql 38 (.agg #[.string s, .string n]) (.agg #[.string s, .string n])).run Try.prog w = .ok (.bool true) w := by
  rw [run_eql_struct, run_equalIn_agg w 9999 _ _ _ prqT prqH, pr_eqFields 9998]; rfl
theorem below_drewQ {B : Nat} {a w : World} (h : Below B a w) (m : Nat) : Below B a (w.drewN m) := ⟨h.os, h.tape, h.output, h.size, h.block⟩
set_option maxHeartbeats 2000000 in
theorem qxF_true (v u : Value) (l : List (ByteArray × ByteArray)) (w : World) (hr : PrReads w v l) (hq : PrReads w u l) (hlen : l.length ≤ 1048576) :
    Calls Try.prog 17 #[v, u] w fun e w' => e = .returned (.bool true) ∧ Below w.heap.size w w' := by
  obtain ⟨ao, cap, rfl⟩ := readsR_shape hr
  obtain ⟨au, cau, rfl⟩ := readsR_shape hq
  have hnq := fun s n w => pr_neq_self s n w
  have hgd := fun (op : BinOp) (x y : Operand) (xs ys : Array Value) (w : World) => run_eqGuard_agg (P := Try.prog) w op 38 x y xs ys prqG
  go_enter Try.func17, Try.ntmps17
  go_wp2_with fail
  go_loopw [5] (fun i wr => ∃ k : Nat, k ≤ l.length ∧ i = .int .i64 k ∧ Below w.heap.size w wr) (fun i _ => l.length - (intOf i).toNat)
  case atStart => exact ⟨0, Nat.zero_le _, rfl, Below.refl _ _⟩
  case round =>
    obtain ⟨k, hk, rfl, hB⟩ := hrel
    by_cases hlt : k < l.length
    · obtain ⟨b, off, rfl, hb, _, _, hc⟩ := pr_some hr (by omega)
      obtain ⟨b2, off2, rfl, hb2, _, _, hc2⟩ := pr_some hq (by omega)
      have hcl := pr_cell_kept (pr_cells hc hlt) hB hb
      have hcl2 := pr_cell_kept (pr_cells hc2 hlt) hB hb2
      have hc0 := hcl.1
      have hc1 := hcl.2
      have hd0 := hcl2.1
      have hd1 := hcl2.2
      have hlt' : (k : Int) < (l.length : Int) := by omega
      clear hcl hcl2 hc hc2 hr hq
      go_wp2_with fail
      go_quiet (fail)
      go_wp2_with fail
      go_roundw
      case rel => exact ⟨k + 1, hlt, by go_num, below_drewQ hB _⟩
      case measure => simp [intOf]; omega
    · go_wp2_with fail
      go_ret
      exact ⟨rfl, hB⟩
end Go.Proofs.Ytfnbjjcelncliaa
