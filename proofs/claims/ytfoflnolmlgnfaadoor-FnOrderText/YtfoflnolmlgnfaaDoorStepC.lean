/- The reader of orders: steps within a word, and whether it is whole. -/
import Derived.Test.YtfoflnolmlgnfaaDoorStepB
import Derived.Test.YtfoflnolmlgnfaaDoorStrs
namespace Go.Proofs.YtfoflnolmlgnfaaDoor
open Go.RowKit

set_option maxHeartbeats 2000000 in
theorem inWord_more (B r : Nat) (p : Value) (buf : List UInt8) (x2 x3 x4 : Value) (n : Int) (w : World) (h : EB w B r p buf x2 x3 x4 (.int .i64 n)) (hn : (buf.length : Int) < n) :
    Calls Tryd.prog 92 #[.pointer (some ⟨r, 0, none⟩)] w fun e w' => e = .returned (.tuple #[]) ∧ EB w' B r p buf (stp 96 r) x3 x4 (.int .i64 n) ∧ Below B w w' ∧ Lib.OthersKept 5 (some r) w w' := by
  have hB := h.1
  have hd : decide ((buf.length : Int) < n) = true := by simpa using hn
  have hc5 := (eb_cell2 h).2.2.2
  have hc2 := (eb_cell2 h).1
  have hf2 := eb_frozen h 2
  have hE := eb_step h (stp 96 r)
  have hrs := fun (w : World) (a : Addr) => run_store Tryd.prog w a (.func (.func 96) #[.pointer (some ⟨r, 0, none⟩)] #[]) .plain rfl
  go_enter Tryd.func92, Tryd.ntmps92
  go_wp2_with fail
  refine wp_region_held_drew (S := (fun w' => w' = w.drew ∧ w'.cell? ⟨r, 5, none⟩ = some (.int .i64 n))) (by kernel_rfl) (by exact ⟨rfl, hc5⟩) (fun hHeld => ?_)
  refine takeH (i := 0) (d := (some 2)) (v := ?_) rfl rfl (by kernel_rfl) (by kernel_rfl) (by kernel_rfl) (fun _ _ _ h => h) (by kernel_rfl) ?_ (by assumption) ?_
  rotate_left
  · (intro w hSw; (try dsimp only at hSw); go_simp; try with_reducible rfl)
  try simp only [Act.put, List.setIfInBounds_toArray, List.set_cons_succ, List.set_cons_zero]
  refine takeH (i := 1) (d := (some 3)) (v := ?_) rfl rfl (by kernel_rfl) (by kernel_rfl) (by kernel_rfl) (fun _ _ _ h => h) (by kernel_rfl) ?_ (by assumption) ?_
  rotate_left
  · (intro w hSw; (try dsimp only at hSw); go_simp; try with_reducible rfl)
  try simp only [Act.put, List.setIfInBounds_toArray, List.set_cons_succ, List.set_cons_zero]
  refine takeH (i := 2) (d := (some 4)) (v := ?_) rfl rfl (by kernel_rfl) (by kernel_rfl) (by kernel_rfl) (fun _ _ _ h => h) (by kernel_rfl) ?_ (by assumption) ?_
  rotate_left
  · (intro w hSw; (try dsimp only at hSw); go_simp; try with_reducible rfl)
  try simp only [Act.put, List.setIfInBounds_toArray, List.set_cons_succ, List.set_cons_zero]
  refine takeH (i := 4) (d := (some 6)) (v := ?_) rfl rfl (by kernel_rfl) (by kernel_rfl) (by kernel_rfl) (fun _ _ _ h => h) (by kernel_rfl) ?_ (by assumption) ?_
  rotate_left
  · (intro w hSw; (try dsimp only at hSw); go_simp; try with_reducible rfl)
  try simp only [Act.put, List.setIfInBounds_toArray, List.set_cons_succ, List.set_cons_zero]
  refine takeH (i := 5) (d := (some 7)) (v := ?_) rfl rfl (by kernel_rfl) (by kernel_rfl) (by kernel_rfl) (fun _ _ _ h => h) (by kernel_rfl) ?_ (by assumption) ?_
  rotate_left
  · (intro w hSw; (try dsimp only at hSw); go_simp; try with_reducible rfl)
  try simp only [Act.put, List.setIfInBounds_toArray, List.set_cons_succ, List.set_cons_zero]
  refine takeH (i := 6) (d := (some 8)) (v := ?_) rfl rfl (by kernel_rfl) (by kernel_rfl) (by kernel_rfl) (fun _ _ _ h => h) (by kernel_rfl) ?_ (by assumption) ?_
  rotate_left
  · (intro w hSw; (try dsimp only at hSw); go_simp; try with_reducible rfl)
  try simp only [Act.put, List.setIfInBounds_toArray, List.set_cons_succ, List.set_cons_zero]
  refine takeH (i := 7) (d := (some 9)) (v := ?_) rfl rfl (by kernel_rfl) (by kernel_rfl) (by kernel_rfl) (fun _ _ _ h => h) (by kernel_rfl) ?_ (by assumption) ?_
  rotate_left
  · (intro w hSw; (try dsimp only at hSw); go_simp; try with_reducible rfl)
  try simp only [Act.put, List.setIfInBounds_toArray, List.set_cons_succ, List.set_cons_zero]
  refine wpAnyH_ready (rs := [3]) (by kernel_rfl) (by simp) ?_
  refine AllReadyH.cons rfl (fun K hK => ?_) AllReadyH.nil
  go_simp
  refine (lenE_any B r p buf x2 x3 x4 _ _ (by exact h)).mono ?_; rintro e w3 ⟨rfl, rfl⟩
  refine hK.out _ _ ?_ (fun hHeld => ?_)
  · exact ⟨rfl, hc5⟩
  clear hK K
  try simp only [Act.put, List.setIfInBounds_toArray, List.set_cons_succ, List.set_cons_zero]
  refine takeH (i := 8) (d := (some 10)) (v := ?_) rfl rfl (by kernel_rfl) (by kernel_rfl) (by kernel_rfl) (fun _ _ _ h => h) (by kernel_rfl) ?_ (by assumption) ?_
  rotate_left
  · (intro w hSw; (try dsimp only at hSw); go_simp; try with_reducible rfl)
  try simp only [Act.put, List.setIfInBounds_toArray, List.set_cons_succ, List.set_cons_zero]
  refine wpAnyH_done (by kernel_rfl) ?_ _
  clear hHeld
  go_wp2_with fail
  go_end0
  exact ⟨rfl, hE, ((Below.refl B w).setCell (p := ⟨r, 2, none⟩) hB _).drew, ((Lib.OthersKept.refl _ _ w).setCell ⟨r, 2, none⟩ rfl _).drew⟩
set_option maxHeartbeats 2000000 in
theorem inWord_full (B r : Nat) (p : Value) (buf : List UInt8) (x2 x3 x4 : Value) (n : Int) (w : World) (h : EB w B r p buf x2 x3 x4 (.int .i64 n)) (hn : n ≤ (buf.length : Int)) :
    Calls Tryd.prog 92 #[.pointer (some ⟨r, 0, none⟩)] w fun e w' => e = .returned (.tuple #[]) ∧ EB w' B r p buf (stp 97 r) x3 x4 (.int .i64 n) ∧ Below B w w' ∧ Lib.OthersKept 5 (some r) w w' := by
  have hB := h.1
  have hd : decide ((buf.length : Int) < n) = false := by simp; omega
  have hc5 := (eb_cell2 h).2.2.2
  have hc2 := (eb_cell2 h).1
  have hf2 := eb_frozen h 2
  have hE := eb_step h (stp 97 r)
  have hrs := fun (w : World) (a : Addr) => run_store Tryd.prog w a (.func (.func 97) #[.pointer (some ⟨r, 0, none⟩)] #[]) .plain rfl
  go_enter Tryd.func92, Tryd.ntmps92
  go_wp2_with fail
  refine wp_region_held_drew (S := (fun w' => w' = w.drew ∧ w'.cell? ⟨r, 5, none⟩ = some (.int .i64 n))) (by kernel_rfl) (by exact ⟨rfl, hc5⟩) (fun hHeld => ?_)
  refine takeH (i := 0) (d := (some 2)) (v := ?_) rfl rfl (by kernel_rfl) (by kernel_rfl) (by kernel_rfl) (fun _ _ _ h => h) (by kernel_rfl) ?_ (by assumption) ?_
  rotate_left
  · (intro w hSw; (try dsimp only at hSw); go_simp; try with_reducible rfl)
  try simp only [Act.put, List.setIfInBounds_toArray, List.set_cons_succ, List.set_cons_zero]
  refine takeH (i := 1) (d := (some 3)) (v := ?_) rfl rfl (by kernel_rfl) (by kernel_rfl) (by kernel_rfl) (fun _ _ _ h => h) (by kernel_rfl) ?_ (by assumption) ?_
  rotate_left
  · (intro w hSw; (try dsimp only at hSw); go_simp; try with_reducible rfl)
  try simp only [Act.put, List.setIfInBounds_toArray, List.set_cons_succ, List.set_cons_zero]
  refine takeH (i := 2) (d := (some 4)) (v := ?_) rfl rfl (by kernel_rfl) (by kernel_rfl) (by kernel_rfl) (fun _ _ _ h => h) (by kernel_rfl) ?_ (by assumption) ?_
  rotate_left
  · (intro w hSw; (try dsimp only at hSw); go_simp; try with_reducible rfl)
  try simp only [Act.put, List.setIfInBounds_toArray, List.set_cons_succ, List.set_cons_zero]
  refine takeH (i := 4) (d := (some 6)) (v := ?_) rfl rfl (by kernel_rfl) (by kernel_rfl) (by kernel_rfl) (fun _ _ _ h => h) (by kernel_rfl) ?_ (by assumption) ?_
  rotate_left
  · (intro w hSw; (try dsimp only at hSw); go_simp; try with_reducible rfl)
  try simp only [Act.put, List.setIfInBounds_toArray, List.set_cons_succ, List.set_cons_zero]
  refine takeH (i := 5) (d := (some 7)) (v := ?_) rfl rfl (by kernel_rfl) (by kernel_rfl) (by kernel_rfl) (fun _ _ _ h => h) (by kernel_rfl) ?_ (by assumption) ?_
  rotate_left
  · (intro w hSw; (try dsimp only at hSw); go_simp; try with_reducible rfl)
  try simp only [Act.put, List.setIfInBounds_toArray, List.set_cons_succ, List.set_cons_zero]
  refine takeH (i := 6) (d := (some 8)) (v := ?_) rfl rfl (by kernel_rfl) (by kernel_rfl) (by kernel_rfl) (fun _ _ _ h => h) (by kernel_rfl) ?_ (by assumption) ?_
  rotate_left
  · (intro w hSw; (try dsimp only at hSw); go_simp; try with_reducible rfl)
  try simp only [Act.put, List.setIfInBounds_toArray, List.set_cons_succ, List.set_cons_zero]
  refine takeH (i := 7) (d := (some 9)) (v := ?_) rfl rfl (by kernel_rfl) (by kernel_rfl) (by kernel_rfl) (fun _ _ _ h => h) (by kernel_rfl) ?_ (by assumption) ?_
  rotate_left
  · (intro w hSw; (try dsimp only at hSw); go_simp; try with_reducible rfl)
  try simp only [Act.put, List.setIfInBounds_toArray, List.set_cons_succ, List.set_cons_zero]
  refine wpAnyH_ready (rs := [3]) (by kernel_rfl) (by simp) ?_
  refine AllReadyH.cons rfl (fun K hK => ?_) AllReadyH.nil
  go_simp
  refine (lenE_any B r p buf x2 x3 x4 _ _ (by exact h)).mono ?_; rintro e w3 ⟨rfl, rfl⟩
  refine hK.out _ _ ?_ (fun hHeld => ?_)
  · exact ⟨rfl, hc5⟩
  clear hK K
  try simp only [Act.put, List.setIfInBounds_toArray, List.set_cons_succ, List.set_cons_zero]
  refine takeH (i := 8) (d := (some 10)) (v := ?_) rfl rfl (by kernel_rfl) (by kernel_rfl) (by kernel_rfl) (fun _ _ _ h => h) (by kernel_rfl) ?_ (by assumption) ?_
  rotate_left
  · (intro w hSw; (try dsimp only at hSw); go_simp; try with_reducible rfl)
  try simp only [Act.put, List.setIfInBounds_toArray, List.set_cons_succ, List.set_cons_zero]
  refine wpAnyH_done (by kernel_rfl) ?_ _
  clear hHeld
  go_wp2_with fail
  go_end0
  exact ⟨rfl, hE, ((Below.refl B w).setCell (p := ⟨r, 2, none⟩) hB _).drew, ((Lib.OthersKept.refl _ _ w).setCell ⟨r, 2, none⟩ rfl _).drew⟩
/-- what comes next in a word of n bytes, so many of which are there -/
def nextW (m : Nat) (n : Int) : Nat := if (m : Int) < n then 96 else 97
theorem inWord_any (B r : Nat) (p : Value) (buf : List UInt8) (x2 x3 x4 : Value) (n : Int) (w : World) (h : EB w B r p buf x2 x3 x4 (.int .i64 n)) :
    Calls Tryd.prog 92 #[.pointer (some ⟨r, 0, none⟩)] w fun e w' => e = .returned (.tuple #[]) ∧ EB w' B r p buf (stp (nextW buf.length n) r) x3 x4 (.int .i64 n) ∧ Below B w w' ∧ Lib.OthersKept 5 (some r) w w' := by
  unfold nextW
  by_cases hn : (buf.length : Int) < n
  · rw [if_pos hn]; exact inWord_more B r p buf x2 x3 x4 n w h hn
  · rw [if_neg hn]; exact inWord_full B r p buf x2 x3 x4 n w h (by omega)
set_option maxHeartbeats 2000000 in
theorem sizeEnd_any (B r : Nat) (p : Value) (buf : List UInt8) (x2 x3 x4 : Value) (n : Int) (c : UInt8) (w : World) (h : EB w B r p buf x2 x3 x4 (.int .i64 n)) :
    Calls Tryd.prog 86 #[.pointer (some ⟨r, 0, none⟩), .int .u8 (c.toNat : Int)] w fun e w' => e = .returned (.bool ((c.toNat : Int) == 10)) ∧ EB w' B r p buf (stp (nextW buf.length n) r) x3 x4 (.int .i64 n) ∧ Below B w w' ∧ Lib.OthersKept 5 (some r) w w' := by
  go_enter Tryd.func86, Tryd.ntmps86
  go_wp2_with fail
  refine (inWord_any B r p buf x2 x3 x4 n _ h).mono ?_
  rintro e w1 ⟨rfl, hE1, hB1, hO1⟩
  go_wp2_with fail
  go_ret
  exact ⟨rfl, hE1, hB1, hO1⟩
set_option maxHeartbeats 2000000 in
theorem wordByte_any (B r : Nat) (p : Value) (buf : List UInt8) (x2 x3 x4 : Value) (n : Int) (c : UInt8) (w : World) (hp : selfP r p) (h : EB w B r p buf x2 x3 x4 (.int .i64 n)) (hl : buf.length ≤ 1000) (hBw : B ≤ w.heap.size) :
    Calls Tryd.prog 96 #[.pointer (some ⟨r, 0, none⟩), .int .u8 (c.toNat : Int)] w fun e w' => e = .returned (.bool true) ∧ EB w' B r (.pointer (some ⟨r, 0, none⟩)) (buf ++ [c]) (stp (nextW (buf ++ [c]).length n) r) x3 x4 (.int .i64 n) ∧ Below B w w' ∧ Lib.OthersKept 5 (some r) w w' := by
  obtain ⟨L, hL⟩ : ∃ L, buf ++ [c] = L := ⟨_, rfl⟩
  rw [hL]
  go_enter Tryd.func96, Tryd.ntmps96
  go_wp2_with fail
  refine (writeE_any B r p buf c x2 x3 x4 _ _ hp h (by omega) hBw).mono ?_
  rintro e w1 ⟨rfl, hE1, hB1, hO1⟩
  rw [hL] at hE1
  clear h hL
  go_wp2_with fail
  refine (inWord_any B r _ L x2 x3 x4 n _ hE1).mono ?_
  rintro e w2 ⟨rfl, hE2, hB2, hO2⟩
  go_wp2_with fail
  go_ret
  exact ⟨rfl, hE2, hB1.trans hB2, hO1.trans hO2⟩
end Go.Proofs.YtfoflnolmlgnfaaDoor
