/- The embedded Builder, read and taken back. -/
import Derived.Test.YtfoflnolmlgnfaaDoorBldE
namespace Go.Proofs.YtfoflnolmlgnfaaDoor
open Go.RowKit

theorem cellsU8 : Tryd.prog.cellsOf 5 = 1 := by kernel_rfl
theorem eb_froze {w : World} {B r g cap : Nat} {p : Value} {buf : List UInt8} {x2 x3 x4 x5 : Value} (h : EB w B r p buf x2 x3 x4 x5) (hc : w.cell? ⟨r, 1, none⟩ = some (.slice (some ⟨g, 0, none⟩) buf.length cap)) :
    EB (w.freeze ⟨g, 0, none⟩ buf.length) B r p buf x2 x3 x4 x5 := by
  obtain ⟨hB, v, hb, hown, hne, hn⟩ := h
  have hv : v = .slice (some ⟨g, 0, none⟩) buf.length cap := by
    rw [Lib.cell_of_heap hb] at hc; simpa using hc
  subst hv
  have hgb : g ≠ r := fun e => hne (by simp [Value.ownBlock, e])
  unfold World.freeze
  split
  · exact ⟨hB, _, hb, hown, hne, hn⟩
  · refine ⟨hB, _, ?_, ⟨hown.1, ?_⟩, hne, hn⟩
    · simp only [Array.getElem?_modify]
      rw [if_neg hgb]; exact hb
    · rcases hown.2 with ⟨hv, _⟩ | ⟨g', cap', cur, fz, hv, hbg, hg, hfz, rest⟩
      · cases hv
      · injection hv with ha _ hcap
        injection ha with ha
        injection ha with hgg _ _
        subst hgg
        subst hcap
        obtain ⟨lo, hi⟩ := fz
        refine .inr ⟨g, _, cur, (if lo == hi then (0, 0 + buf.length) else (min lo 0, max hi (0 + buf.length))), rfl, hbg, ?_, ?_, rest⟩
        · simp [Array.getElem?_modify, hg]
        · simp only at hfz
          split <;> simp <;> omega
set_option maxHeartbeats 2000000 in
set_option maxRecDepth 100000 in
theorem stringE_nil (B r : Nat) (p : Value) (x2 x3 x4 x5 : Value) (w : World) (h : EB w B r p [] x2 x3 x4 x5) :
    Calls Tryd.prog 25 #[.pointer (some ⟨r, 0, none⟩)] w fun e w' => e = .returned (.string ⟨#[]⟩) ∧ EB w' B r p [] x2 x3 x4 x5 ∧ Below B w w' ∧ Lib.OthersKept 5 (some r) w w' := by
  obtain ⟨hB, v, hb, hown, hne, hn⟩ := h
  obtain rfl := hn rfl
  have hUS := fun (W : World) (q : Option Addr) => Lib.run_unsafeString_none (P := Tryd.prog) W 96 3 9 q
  have c1 : w.drew.cell? ⟨r, 1, none⟩ = some (.slice none 0 0) := by
    have : w.drew.heap[r]? = some (.cells #[p, .slice none 0 0, x2, x3, x4, x5] 69 (0, 0)) := hb
    rw [Lib.cell_of_heap this]; rfl
  have hSD : (Builtin.unsafeSliceData_ #[22] 96 #[.slice none 0 0]).run Tryd.prog w.drew = .ok (.pointer none) w.drew := rfl
  have mixed : Tryd.prog.follows Departure.mixedOrders = true := by kernel_rfl
  clear hn
  go_enter Tryd.func25, Tryd.ntmps25
  go_wp2
  go_region_o
  all_goals (go_wp2; go_ret; exact ⟨rfl, ⟨hB, _, hb, hown, hne, fun _ => rfl⟩, (Below.refl B w).drew, (Lib.OthersKept.refl _ _ w).drew⟩)
set_option maxHeartbeats 2000000 in
set_option maxRecDepth 100000 in
theorem stringE_some (B r : Nat) (p : Value) (buf : List UInt8) (x2 x3 x4 x5 : Value) (w : World) (h : EB w B r p buf x2 x3 x4 x5) (h0 : buf ≠ []) :
    Calls Tryd.prog 25 #[.pointer (some ⟨r, 0, none⟩)] w fun e w' => e = .returned (.string ⟨buf.toArray⟩) ∧ EB w' B r p buf x2 x3 x4 x5 ∧ Below B w w' ∧ Lib.OthersKept 5 (some r) w w' := by
  have hE := h
  obtain ⟨hB, v, hbk, hown, hne, hn⟩ := h
  have hl0 : buf.length ≠ 0 := by simpa using h0
  obtain ⟨g, cap, cur, fz, rfl, hbg, hg, hfz, hnc, hcm, hcs, htake⟩ : ∃ g cap cur fz, v = .slice (some ⟨g, 0, none⟩) buf.length cap ∧ B ≤ g ∧ w.heap[g]? = some (.cells cur 5 fz) ∧ fz.2 ≤ buf.length * 1 ∧ buf.length ≤ cap ∧ cap ≤ maxLen ∧ cur.size = cap * 1 ∧ cur.toList.take (buf.length * 1) = Lib.byteCells buf := by
    rcases hown.2 with ⟨_, hz⟩ | ⟨g, cap, cur, fz, hv, r⟩
    · exact absurd hz hl0
    · exact ⟨g, cap, cur, fz, hv, r⟩
  have c1 : w.drew.cell? ⟨r, 1, none⟩ = some (.slice (some ⟨g, 0, none⟩) buf.length cap) := by
    have : w.drew.heap[r]? = some (.cells #[p, .slice (some ⟨g, 0, none⟩) buf.length cap, x2, x3, x4, x5] 69 (0, 0)) := hbk
    rw [Lib.cell_of_heap this]; rfl
  have hSD : (Builtin.unsafeSliceData_ #[22] 96 #[.slice (some ⟨g, 0, none⟩) buf.length cap]).run Tryd.prog w.drew = .ok (.pointer (some ⟨g, 0, none⟩)) w.drew :=
    Lib.run_unsafeSliceData_row _ _ _ _ _ _ (by omega)
  have hUS : (Builtin.unsafeString_ #[96, 3] 9 #[.pointer (some ⟨g, 0, none⟩), .int .i64 buf.length]).run Tryd.prog w.drew = .ok (.string ⟨buf.toArray⟩) (w.drew.freeze ⟨g, 0, none⟩ buf.length) := by
    refine Lib.run_unsafeString_row w.drew 96 3 9 5 Tryd.underlying96 cellsU8 g cur.size (by have hg' : w.drew.heap[g]? = some (.cells cur 5 fz) := hg; simp [World.shape?, hg']) buf h0 (by omega) (by unfold maxLen at hcm; omega) ?_
    intro j x hx
    exact hown.cells (g := g) rfl j (.int .u8 x.toNat) (by simp [Lib.byteCells, hx])
  have hkeep : EB (w.drew.freeze ⟨g, 0, none⟩ buf.length) B r p buf x2 x3 x4 x5 := eb_froze (w := w.drew) hE c1
  have mixed : Tryd.prog.follows Departure.mixedOrders = true := by kernel_rfl
  clear hn
  go_enter Tryd.func25, Tryd.ntmps25
  go_wp2
  go_region_o
  all_goals (go_wp2; go_ret; exact ⟨rfl, hkeep, Lib.below_freeze (Below.drew (Below.refl B w)) (p := ⟨g, 0, none⟩) hbg _, ((Lib.OthersKept.refl _ _ w).drew).freeze ⟨g, 0, none⟩ _ ⟨cur, fz, hg⟩⟩)
theorem stringE_any (B r : Nat) (p : Value) (buf : List UInt8) (x2 x3 x4 x5 : Value) (w : World) (h : EB w B r p buf x2 x3 x4 x5) :
    Calls Tryd.prog 25 #[.pointer (some ⟨r, 0, none⟩)] w fun e w' => e = .returned (.string ⟨buf.toArray⟩) ∧ EB w' B r p buf x2 x3 x4 x5 ∧ Below B w w' ∧ Lib.OthersKept 5 (some r) w w' := by
  cases buf with
  | nil => exact stringE_nil B r p x2 x3 x4 x5 w h
  | cons c buf => exact stringE_some B r p (c :: buf) x2 x3 x4 x5 w h (by simp)
theorem lenE_any (B r : Nat) (p : Value) (buf : List UInt8) (x2 x3 x4 x5 : Value) (w : World) (h : EB w B r p buf x2 x3 x4 x5) :
    Calls Tryd.prog 95 #[.pointer (some ⟨r, 0, none⟩)] w fun e w' => e = .returned (.int .i64 (buf.length : Int)) ∧ w' = w := by
  obtain ⟨hB, v, hb, hown, hne, hn⟩ := h
  obtain ⟨ao, cap, rfl⟩ : ∃ ao cap, v = .slice ao buf.length cap := by
    rcases hown.2 with ⟨hv, h0⟩ | ⟨g, cap, cur, fz, hv, _⟩
    · exact ⟨none, 0, by rw [hv, h0]⟩
    · exact ⟨_, _, hv⟩
  have c1 : w.cell? ⟨r, 1, none⟩ = some (.slice ao buf.length cap) := by rw [Lib.cell_of_heap hb]; rfl
  go_enter Tryd.func95, Tryd.ntmps95
  go_wp2_with fail
  go_ret
  exact ⟨rfl, rfl⟩
theorem resetE_any (B r : Nat) (p : Value) (buf : List UInt8) (x2 x3 x4 x5 : Value) (w : World) (h : EB w B r p buf x2 x3 x4 x5) :
    Calls Tryd.prog 75 #[.pointer (some ⟨r, 0, none⟩)] w fun e w' => e = .returned (.tuple #[]) ∧ EB w' B r (.pointer none) [] x2 x3 x4 x5 ∧ Below B w w' ∧ Lib.OthersKept 5 (some r) w w' := by
  obtain ⟨hB, v, hb, hown, hne, hn⟩ := h
  have c0 : w.cell? ⟨r, 0, none⟩ = some p := by rw [Lib.cell_of_heap hb]; rfl
  have c1 : w.cell? ⟨r, 1, none⟩ = some v := by rw [Lib.cell_of_heap hb]; rfl
  have f0 : w.frozen? ⟨r, 0, none⟩ = false := Lib.frozen_of_heap hb 0
  have f1 : w.frozen? ⟨r, 1, none⟩ = false := Lib.frozen_of_heap hb 1
  have hb1 : (w.setCell ⟨r, 0, none⟩ (.pointer none)).heap[r]? = some (.cells #[.pointer none, v, x2, x3, x4, x5] 69 (0, 0)) := by
    rw [heap_setCell_same w r 0 _ _ _ hb]; rfl
  have hb2 : ((w.setCell ⟨r, 0, none⟩ (.pointer none)).setCell ⟨r, 1, none⟩ (.slice none 0 0)).heap[r]? = some (.cells #[.pointer none, .slice none 0 0, x2, x3, x4, x5] 69 (0, 0)) := by
    rw [heap_setCell_same _ r 1 _ _ _ hb1]; rfl
  go_enter Tryd.func75, Tryd.ntmps75
  go_wp2_with fail
  go_end0
  exact ⟨rfl, ⟨hB, _, hb2, World.ownsRowF_nil _ _ _ _, by simp [Value.ownBlock], fun _ => rfl⟩, ((Below.refl B w).setCell (p := ⟨r, 0, none⟩) hB _).setCell (p := ⟨r, 1, none⟩) hB _, ((Lib.OthersKept.refl _ _ w).setCell ⟨r, 0, none⟩ rfl _).setCell ⟨r, 1, none⟩ rfl _⟩
end Go.Proofs.YtfoflnolmlgnfaaDoor
