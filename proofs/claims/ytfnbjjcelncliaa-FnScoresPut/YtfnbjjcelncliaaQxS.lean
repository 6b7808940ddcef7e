/- Are two lists of scores alike: the laws' helper. -/
import Derived.Test.YtfnbjjcelncliaaDrS
import Derived.Laws.StructEq
import Derived.Deep.QuietTactic
namespace Go.Proofs.Ytfnbjjcelncliaa
open Go.RowKit

theorem scT : Try.prog.underlying 25 = some (.struct (Try.prog.fieldsOf 25)) := by kernel_rfl
theorem scH : Try.prog.stoodInHeld 25 = false := by kernel_rfl
theorem scG : Try.prog.eqGuardType Try.prog.depth 25 = false := by kernel_rfl
theorem scF : (Try.prog.fieldsOf 25).toList.map (fun f => (f.type, f.offset, f.name != "_")) = [(9, 0, true), (3, 1, true)] := by kernel_rfl
theorem sc_eqFields (d : Nat) (s : ByteArray) (n : Int) (w : World) : (Op.eqFields (d + 1) #[.string s, .int .i64 n] #[.string s, .int .i64 n] (Try.prog.fieldsOf 25).toList).run Try.prog w = .ok true w := by
  have h := scF
  generalize (Try.prog.fieldsOf 25).toList = fs at h
  match fs, h with
  | [], h => simp at h
  | [a], h => simp at h
  | [a, b], h =>
    simp only [List.map_cons, List.map_nil, List.cons.injEq, Prod.mk.injEq, and_true] at h
    obtain ⟨⟨a1, a2, a3⟩, b1, b2, b3⟩ := h
    simp [Op.eqFields, a1, a2, b1, b2, part, Try.isAgg9, Try.isAgg3, run_equalIn_string _ _ _ _ _ Try.underlying9, run_equalIn_int _ _ _ _ _ _ _ Try.underlying3]
  | a :: b :: c :: r, h => simp at h
theorem sc_neq_self (s : ByteArray) (n : Int) (w : World) : (binOp .neq 25 (.agg #[.string s, .int .i64 n]) (.agg #[.string s, .int .i64 n])).run Try.prog w = .ok (.bool false) w := by
  rw [run_neq_struct, run_equalIn_agg w 9999 _ _ _ scT scH, sc_eqFields 9998]; rfl
theorem sc_eql_self (s : ByteArray) (n : Int) (w : World) : (binOp .eql 25 (.agg #[.string s, .int .i64 n]) (.agg #[.string s, .int .i64 n])).run Try.prog w = .ok (.bool true) w := by
  rw [run_eql_struct, run_equalIn_agg w 9999 _ _ _ scT scH, sc_eqFields 9998]; rfl
theorem below_drewN {B : Nat} {a w : World} (h : Below B a w) (m : Nat) : Below B a (w.drewN m) := ⟨h.os, h.tape, h.output, h.size, h.block⟩
set_option maxHeartbeats 2000000 in
theorem qxS_true (v u : Value) (l : List (ByteArray × Int)) (w : World) (hr : ScReads w v l) (hq : ScReads w u l) (hlen : l.length ≤ 1048576) :
    Calls Try.prog 9 #[v, u] w fun e w' => e = .returned (.bool true) ∧ Below w.heap.size w w' := by
  obtain ⟨ao, cap, rfl⟩ := readsR_shape hr
  obtain ⟨au, cau, rfl⟩ := readsR_shape hq
  have hnq := fun s n w => sc_neq_self s n w
  have hgd := fun (op : BinOp) (x y : Operand) (xs ys : Array Value) (w : World) => run_eqGuard_agg (P := Try.prog) w op 25 x y xs ys scG
  go_enter Try.func9, Try.ntmps9
  go_wp2_with fail
  go_loopw [5] (fun i wr => ∃ k : Nat, k ≤ l.length ∧ i = .int .i64 k ∧ Below w.heap.size w wr) (fun i _ => l.length - (intOf i).toNat)
  case atStart => exact ⟨0, Nat.zero_le _, rfl, Below.refl _ _⟩
  case round =>
    obtain ⟨k, hk, rfl, hB⟩ := hrel
    by_cases hlt : k < l.length
    · obtain ⟨b, off, rfl, hb, _, _, hc⟩ := sc_some hr (by omega)
      obtain ⟨b2, off2, rfl, hb2, _, _, hc2⟩ := sc_some hq (by omega)
      have hcl := sc_cell_kept (sc_cells hc hlt) hB hb
      have hcl2 := sc_cell_kept (sc_cells hc2 hlt) hB hb2
      have hc0 := hcl.1
      have hc1 := hcl.2
      have hd0 := hcl2.1
      have hd1 := hcl2.2
      have hlt' : (k : Int) < (l.length : Int) := by omega
      clear hcl hcl2 hc hc2 hr hq
      go_wp2_with fail
      go_quiet (fail)
      go_wp2_with fail
      go_roundw
      case rel => exact ⟨k + 1, hlt, by go_num, below_drewN hB _⟩
      case measure => simp [intOf]; omega
    · go_wp2_with fail
      go_ret
      exact ⟨rfl, hB⟩
end Go.Proofs.Ytfnbjjcelncliaa
