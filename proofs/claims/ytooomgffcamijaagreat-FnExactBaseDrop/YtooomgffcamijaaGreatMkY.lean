/- A base that grew: marked whole, asked for again; its stretch. -/
import Derived.Test.YtooomgffcamijaaGreatGrW1
namespace Go.Proofs.YtooomgffcamijaaGreat
open Go.RowKit
set_option linter.unusedVariables false

/-- a result that grew, its stretch closed -/
structure GrO (w : World) (lo hi : Nat) (v : Value) (ys : List Row) : Prop where
  rows : OwnR rowC 7 53 w lo hi v ys
  ins : EnsOwn w lo hi ys
theorem gro_of {w : World} {lo : Nat} {v : Value} {ys : List Row} (h : Gr w lo v ys) : GrO w lo w.heap.size v ys := ⟨gr_own h, h.ins⟩
theorem gro_kept {w w' : World} {lo hi : Nat} {v : Value} {ys : List Row} (h : GrO w lo hi v ys) (hb : Below w.heap.size w w') : GrO w' lo hi v ys := ⟨ownR_kept h.rows hb, ensOwn_kept h.ins hb⟩
theorem ensOwn_apart {w w' : World} {p q : Nat} (hw : Within w w' p q) : ∀ {l : List Row} {lo hi : Nat}, (hi ≤ p ∨ q ≤ lo) → EnsOwn w lo hi l → EnsOwn w' lo hi l
  | [], _, _, _, h => h
  | x :: l, lo, hi, hp, ⟨m, h1, h2, h3⟩ => ⟨m, h1, enOwn_within h2 hw (by have := ensOwn_le h3; omega), ensOwn_apart hw (by omega) h3⟩
theorem gro_within {w w' : World} {lo hi p q : Nat} {v : Value} {ys : List Row} (h : GrO w lo hi v ys) (hw : Within w w' p q) (hap : hi ≤ p ∨ q ≤ lo) : GrO w' lo hi v ys := ⟨ownR_within h.rows hw hap, ensOwn_apart hw hap h.ins⟩
theorem gro_reads {w : World} {lo hi : Nat} {v : Value} {ys : List Row} (h : GrO w lo hi v ys) : EsReads w v ys := ⟨ownR_reads rowC_len h.rows, ensOwn_ins h.ins⟩
set_option maxHeartbeats 2000000 in
theorem markBaseG_any (n : Int) (v : Value) (l : List Row) (lo hi : Nat) (w : World) (ho : GrO w lo hi v l) (hhi : hi ≤ w.heap.size) (hm : rowsM l ≤ 4194304) (hs : ∀ x ∈ l, EnSmall x.e) :
    Calls Tryz.prog 9 #[bsV n v, .int .i64 1] w fun x w' => x = .returned (.int .i64 (1 + rowsM l)) ∧ GrO w' lo hi v (mkRows 1 l) ∧ Within w w' lo hi := by
  obtain ⟨ao, cap, rfl⟩ := readsR_shape (ownR_reads rowC_len ho.rows)
  go_enter Tryz.func9, Tryz.ntmps9
  go_wp2_with fail
  have hb0 : Below w.heap.size w (w.alloc (.cells #[.int .i64 n, .slice ao l.length cap] 28)) := (Below.refl _ w).alloc (Nat.le_refl _) _
  obtain ⟨w0, hW⟩ : ∃ W, w.alloc (.cells #[.int .i64 n, .slice ao l.length cap] 28) = W := ⟨_, rfl⟩
  rw [hW] at hb0 ⊢
  clear hW
  have h0 := gro_kept ho hb0
  refine (markAllX_any _ l lo hi _ h0.rows h0.ins (Nat.le_trans hhi hb0.size) hm hs).mono ?_
  rintro e w1 ⟨rfl, h1, h2, hw⟩
  have hW := within_trans (within_below hb0 lo hi) hw
  have hg : GrO w1 lo hi (.slice ao l.length cap) (mkRows 1 l) := ⟨h1, h2⟩
  clear h1 h2 h0
  go_wp2_with fail
  go_ret
  exact ⟨rfl, hg, hW⟩
set_option maxHeartbeats 2000000 in
theorem heldBaseG_any (n : Int) (v : Value) (l : List Row) (w : World) (hr : EsReads w v (mkRows 1 l)) (hm : rowsM l ≤ 4194304) (hs : ∀ x ∈ l, EnSmall x.e) :
    Calls Tryz.prog 10 #[bsV n v, .int .i64 1] w fun x w' => x = .returned (.int .i64 (1 + rowsM l)) ∧ Below w.heap.size w w' := by
  obtain ⟨ao, cap, rfl⟩ := readsR_shape hr.rows
  have hp : 0 ≤ rowsM l := rowsM_pos l
  have hL := mkRows_len l 1
  rw [hL] at hr ⊢
  go_enter Tryz.func10, Tryz.ntmps10
  go_wp2_with fail
  have hb0 : Below w.heap.size w (w.alloc (.cells #[.int .i64 n, .slice ao l.length cap] 28)) := (Below.refl _ w).alloc (Nat.le_refl _) _
  obtain ⟨w0, hW⟩ : ∃ W, w.alloc (.cells #[.int .i64 n, .slice ao l.length cap] 28) = W := ⟨_, rfl⟩
  rw [hW] at hb0 ⊢
  clear hW
  refine (heldAll_any _ l _ (esReads_kept hr hb0) hm hs).mono ?_
  rintro e w1 ⟨rfl, hb1⟩
  have hB := hb0.trans (hb1.mono hb0.size)
  have hlt : decide (1 + rowsM l < 0) = false := by rw [decide_eq_false_iff_not]; omega
  clear hb1 hb0
  go_wp2_with fail
  go_ret
  exact ⟨rfl, hB⟩
end Go.Proofs.YtooomgffcamijaaGreat
