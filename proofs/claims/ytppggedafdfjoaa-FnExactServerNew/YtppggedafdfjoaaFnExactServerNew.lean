/- Proved: at every number of clients ServerNew answers as its model, and its answer owns its memory, behind another call too. No condition. -/
import Derived.Test.YtppggedafdfjoaaSvC
import Derived.ProofKit
import Derived.OpenShut
import Derived.ShutString
import Derived.ChangeOld
import Derived.Below
import Derived.Deep.RegionWith
namespace Go.Proofs.Ytppggedafdfjoaa.fnExactServerNew
open Go.ChangeShapes Go.WideShapes Go.ChangeAt Go.RowKit
open Go.ChangeMaps (open_string shut_string)
set_option linter.unusedVariables false

theorem own : ownKnob Try.prog.godebug = none := by kernel_rfl
theorem laidOut : laidOutB Try.prog = true := by kernel_rfl

set_option maxHeartbeats 4000000 in
theorem walk_no (a0 : Int) (w : World) (h : a0 < 1 ∨ 3 < a0) :
    Calls Try.prog 3 #[.int .i64 a0] w fun e w' => e = .returned (.bool true) ∧ Below w.heap.size w w' := by
  have HB0 := Below.refl w.heap.size w
  have hz0 : w.heap.size ≤ w.heap.size := Nat.le_refl _
  go_enter Try.func3, Try.ntmps3
  go_wp2_with fail
  refine (specNew_no a0 _ h).mono ?_
  rintro e w1 ⟨rfl, hb⟩
  have HB1 := HB0.trans (hb.mono hz0)
  have hz1 := HB1.size
  clear hb
  go_wp2_with fail
  obtain ⟨w2, hW⟩ : ∃ W, w1.alloc (.cells #[.int .i64 0, .slice none 0 0, .string ByteArray.empty, .slice none 0 0] 27) = W := ⟨_, rfl⟩
  have hb2 : Below w1.heap.size w1 w2 := by rw [← hW]; exact (Below.refl _ _).alloc (Nat.le_refl _) _
  have S2 : Hid (w2.heap[w1.heap.size]? = some (.cells #[.int .i64 0, .slice none 0 0, .string ByteArray.empty, .slice none 0 0] 27 (0, 0))) := by show _ = _; rw [← hW]; exact heap_alloc_new _ _
  have Slt : w1.heap.size < w2.heap.size := by rw [← hW]; simp
  have HB2 := HB1.trans (hb2.mono hz1)
  have hz2 := HB2.size
  rw [hW]
  clear hW hb2
  have Sc0 : w2.cell? ⟨w1.heap.size, 0, none⟩ = some (.int .i64 0) := by rw [cell_of_row _ _ _ _ _ _ S2.out]; rfl
  have Sc1 : w2.cell? ⟨w1.heap.size, 1, none⟩ = some (.slice none 0 0) := by rw [cell_of_row _ _ _ _ _ _ S2.out]; rfl
  have Sc2 : w2.cell? ⟨w1.heap.size, 2, none⟩ = some (.string ByteArray.empty) := by rw [cell_of_row _ _ _ _ _ _ S2.out]; rfl
  have Sc3 : w2.cell? ⟨w1.heap.size, 3, none⟩ = some (.slice none 0 0) := by rw [cell_of_row _ _ _ _ _ _ S2.out]; rfl
  clear Sc0 Sc1 Sc2 Sc3
  refine (implNew_no a0 _ h).mono ?_
  rintro e w3 ⟨rfl, hb⟩
  have HB3 := HB2.trans (hb.mono hz2)
  have hz3 := HB3.size
  have S3 : Hid _ := (hb.block w1.heap.size Slt).trans S2.out
  have Slt := Nat.lt_of_lt_of_le Slt hb.size
  clear hb
  have Sx0 : (w3.alloc (.cells #[.int .i64 0, .slice none 0 0, .string ByteArray.empty, .slice none 0 0] 27)).cell? ⟨w1.heap.size, 0, none⟩ = some (.int .i64 0) := by rw [((Below.refl _ w3).alloc (Nat.le_refl _) _).cell (p := ⟨w1.heap.size, 0, none⟩) Slt, cell_of_row _ _ _ _ _ _ S3.out]; rfl
  have Sx1 : (w3.alloc (.cells #[.int .i64 0, .slice none 0 0, .string ByteArray.empty, .slice none 0 0] 27)).cell? ⟨w1.heap.size, 1, none⟩ = some (.slice none 0 0) := by rw [((Below.refl _ w3).alloc (Nat.le_refl _) _).cell (p := ⟨w1.heap.size, 1, none⟩) Slt, cell_of_row _ _ _ _ _ _ S3.out]; rfl
  have Sx2 : (w3.alloc (.cells #[.int .i64 0, .slice none 0 0, .string ByteArray.empty, .slice none 0 0] 27)).cell? ⟨w1.heap.size, 2, none⟩ = some (.string ByteArray.empty) := by rw [((Below.refl _ w3).alloc (Nat.le_refl _) _).cell (p := ⟨w1.heap.size, 2, none⟩) Slt, cell_of_row _ _ _ _ _ _ S3.out]; rfl
  have Sx3 : (w3.alloc (.cells #[.int .i64 0, .slice none 0 0, .string ByteArray.empty, .slice none 0 0] 27)).cell? ⟨w1.heap.size, 3, none⟩ = some (.slice none 0 0) := by rw [((Below.refl _ w3).alloc (Nat.le_refl _) _).cell (p := ⟨w1.heap.size, 3, none⟩) Slt, cell_of_row _ _ _ _ _ _ S3.out]; rfl
  go_wp2_with fail
  obtain ⟨w4, hW⟩ : ∃ W, w3.alloc (.cells #[.int .i64 0, .slice none 0 0, .string ByteArray.empty, .slice none 0 0] 27) = W := ⟨_, rfl⟩
  have hb2 : Below w3.heap.size w3 w4 := by rw [← hW]; exact (Below.refl _ _).alloc (Nat.le_refl _) _
  have G4 : Hid (w4.heap[w3.heap.size]? = some (.cells #[.int .i64 0, .slice none 0 0, .string ByteArray.empty, .slice none 0 0] 27 (0, 0))) := by show _ = _; rw [← hW]; exact heap_alloc_new _ _
  have Glt : w3.heap.size < w4.heap.size := by rw [← hW]; simp
  have HB4 := HB3.trans (hb2.mono hz3)
  have hz4 := HB4.size
  have S4 : Hid _ := (hb2.block w1.heap.size Slt).trans S3.out
  have Slt := Nat.lt_of_lt_of_le Slt hb2.size
  rw [hW]
  clear hW hb2
  clear Sx0 Sx1 Sx2 Sx3
  have Sc0 : w4.cell? ⟨w1.heap.size, 0, none⟩ = some (.int .i64 0) := by rw [cell_of_row _ _ _ _ _ _ S4.out]; rfl
  have Sc1 : w4.cell? ⟨w1.heap.size, 1, none⟩ = some (.slice none 0 0) := by rw [cell_of_row _ _ _ _ _ _ S4.out]; rfl
  have Sc2 : w4.cell? ⟨w1.heap.size, 2, none⟩ = some (.string ByteArray.empty) := by rw [cell_of_row _ _ _ _ _ _ S4.out]; rfl
  have Sc3 : w4.cell? ⟨w1.heap.size, 3, none⟩ = some (.slice none 0 0) := by rw [cell_of_row _ _ _ _ _ _ S4.out]; rfl
  have Gc0 : w4.cell? ⟨w3.heap.size, 0, none⟩ = some (.int .i64 0) := by rw [cell_of_row _ _ _ _ _ _ G4.out]; rfl
  have Gc1 : w4.cell? ⟨w3.heap.size, 1, none⟩ = some (.slice none 0 0) := by rw [cell_of_row _ _ _ _ _ _ G4.out]; rfl
  have Gc2 : w4.cell? ⟨w3.heap.size, 2, none⟩ = some (.string ByteArray.empty) := by rw [cell_of_row _ _ _ _ _ _ G4.out]; rfl
  have Gc3 : w4.cell? ⟨w3.heap.size, 3, none⟩ = some (.slice none 0 0) := by rw [cell_of_row _ _ _ _ _ _ G4.out]; rfl
  clear Sc0 Sc1 Sc2 Sc3
  clear Gc0 Gc1 Gc2 Gc3
  refine (eqServer_any _ _ 0 _ (cl_nil _ _) (cl_nil _ _) (by omega)).mono ?_
  rintro e w5 ⟨rfl, hb⟩
  have S5 : Hid _ := (hb.block w1.heap.size Slt).trans S4.out
  have G5 : Hid _ := (hb.block w3.heap.size Glt).trans G4.out
  have HB5 := HB4.trans (hb.mono hz4)
  have Slt := Nat.lt_of_lt_of_le Slt hb.size
  have Glt := Nat.lt_of_lt_of_le Glt hb.size
  clear hb
  have hz5 := HB5.size
  have Sc0 : w5.cell? ⟨w1.heap.size, 0, none⟩ = some (.int .i64 0) := by rw [cell_of_row _ _ _ _ _ _ S5.out]; rfl
  have Sc1 : w5.cell? ⟨w1.heap.size, 1, none⟩ = some (.slice none 0 0) := by rw [cell_of_row _ _ _ _ _ _ S5.out]; rfl
  have Sc2 : w5.cell? ⟨w1.heap.size, 2, none⟩ = some (.string ByteArray.empty) := by rw [cell_of_row _ _ _ _ _ _ S5.out]; rfl
  have Sc3 : w5.cell? ⟨w1.heap.size, 3, none⟩ = some (.slice none 0 0) := by rw [cell_of_row _ _ _ _ _ _ S5.out]; rfl
  have Gc0 : w5.cell? ⟨w3.heap.size, 0, none⟩ = some (.int .i64 0) := by rw [cell_of_row _ _ _ _ _ _ G5.out]; rfl
  have Gc1 : w5.cell? ⟨w3.heap.size, 1, none⟩ = some (.slice none 0 0) := by rw [cell_of_row _ _ _ _ _ _ G5.out]; rfl
  have Gc2 : w5.cell? ⟨w3.heap.size, 2, none⟩ = some (.string ByteArray.empty) := by rw [cell_of_row _ _ _ _ _ _ G5.out]; rfl
  have Gc3 : w5.cell? ⟨w3.heap.size, 3, none⟩ = some (.slice none 0 0) := by rw [cell_of_row _ _ _ _ _ _ G5.out]; rfl
  go_wp2_with fail
  clear Sc0 Sc1 Sc2 Sc3
  clear Gc0 Gc1 Gc2 Gc3
  refine (markServer_nil _).mono ?_
  rintro e w6 ⟨rfl, hb⟩
  have S6 : Hid _ := (hb.block w1.heap.size Slt).trans S5.out
  have G6 : Hid _ := (hb.block w3.heap.size Glt).trans G5.out
  have HB6 := HB5.trans (hb.mono hz5)
  have Slt := Nat.lt_of_lt_of_le Slt hb.size
  have Glt := Nat.lt_of_lt_of_le Glt hb.size
  clear hb
  have hz6 := HB6.size
  have Sc0 : w6.cell? ⟨w1.heap.size, 0, none⟩ = some (.int .i64 0) := by rw [cell_of_row _ _ _ _ _ _ S6.out]; rfl
  have Sc1 : w6.cell? ⟨w1.heap.size, 1, none⟩ = some (.slice none 0 0) := by rw [cell_of_row _ _ _ _ _ _ S6.out]; rfl
  have Sc2 : w6.cell? ⟨w1.heap.size, 2, none⟩ = some (.string ByteArray.empty) := by rw [cell_of_row _ _ _ _ _ _ S6.out]; rfl
  have Sc3 : w6.cell? ⟨w1.heap.size, 3, none⟩ = some (.slice none 0 0) := by rw [cell_of_row _ _ _ _ _ _ S6.out]; rfl
  have Gc0 : w6.cell? ⟨w3.heap.size, 0, none⟩ = some (.int .i64 0) := by rw [cell_of_row _ _ _ _ _ _ G6.out]; rfl
  have Gc1 : w6.cell? ⟨w3.heap.size, 1, none⟩ = some (.slice none 0 0) := by rw [cell_of_row _ _ _ _ _ _ G6.out]; rfl
  have Gc2 : w6.cell? ⟨w3.heap.size, 2, none⟩ = some (.string ByteArray.empty) := by rw [cell_of_row _ _ _ _ _ _ G6.out]; rfl
  have Gc3 : w6.cell? ⟨w3.heap.size, 3, none⟩ = some (.slice none 0 0) := by rw [cell_of_row _ _ _ _ _ _ G6.out]; rfl
  go_wp2_with fail
  clear Sc0 Sc1 Sc2 Sc3
  clear Gc0 Gc1 Gc2 Gc3
  refine (heldServer_any _ 0 _ (cl_nil _ _) (by omega)).mono ?_
  rintro e w7 ⟨rfl, hb⟩
  have S7 : Hid _ := (hb.block w1.heap.size Slt).trans S6.out
  have G7 : Hid _ := (hb.block w3.heap.size Glt).trans G6.out
  have HB7 := HB6.trans (hb.mono hz6)
  have Slt := Nat.lt_of_lt_of_le Slt hb.size
  have Glt := Nat.lt_of_lt_of_le Glt hb.size
  clear hb
  have hz7 := HB7.size
  have Sc0 : w7.cell? ⟨w1.heap.size, 0, none⟩ = some (.int .i64 0) := by rw [cell_of_row _ _ _ _ _ _ S7.out]; rfl
  have Sc1 : w7.cell? ⟨w1.heap.size, 1, none⟩ = some (.slice none 0 0) := by rw [cell_of_row _ _ _ _ _ _ S7.out]; rfl
  have Sc2 : w7.cell? ⟨w1.heap.size, 2, none⟩ = some (.string ByteArray.empty) := by rw [cell_of_row _ _ _ _ _ _ S7.out]; rfl
  have Sc3 : w7.cell? ⟨w1.heap.size, 3, none⟩ = some (.slice none 0 0) := by rw [cell_of_row _ _ _ _ _ _ S7.out]; rfl
  have Gc0 : w7.cell? ⟨w3.heap.size, 0, none⟩ = some (.int .i64 0) := by rw [cell_of_row _ _ _ _ _ _ G7.out]; rfl
  have Gc1 : w7.cell? ⟨w3.heap.size, 1, none⟩ = some (.slice none 0 0) := by rw [cell_of_row _ _ _ _ _ _ G7.out]; rfl
  have Gc2 : w7.cell? ⟨w3.heap.size, 2, none⟩ = some (.string ByteArray.empty) := by rw [cell_of_row _ _ _ _ _ _ G7.out]; rfl
  have Gc3 : w7.cell? ⟨w3.heap.size, 3, none⟩ = some (.slice none 0 0) := by rw [cell_of_row _ _ _ _ _ _ G7.out]; rfl
  go_wp2_with fail
  clear Sc0 Sc1 Sc2 Sc3
  clear Gc0 Gc1 Gc2 Gc3
  refine (implNew_no a0 _ h).mono ?_
  rintro e w8 ⟨rfl, hb⟩
  have HB8 := HB7.trans (hb.mono hz7)
  have hz8 := HB8.size
  have S8 : Hid _ := (hb.block w1.heap.size Slt).trans S7.out
  have G8 : Hid _ := (hb.block w3.heap.size Glt).trans G7.out
  have Slt := Nat.lt_of_lt_of_le Slt hb.size
  have Glt := Nat.lt_of_lt_of_le Glt hb.size
  clear hb
  have Sx0 : (w8.alloc (.cells #[.int .i64 0, .slice none 0 0, .string ByteArray.empty, .slice none 0 0] 27)).cell? ⟨w1.heap.size, 0, none⟩ = some (.int .i64 0) := by rw [((Below.refl _ w8).alloc (Nat.le_refl _) _).cell (p := ⟨w1.heap.size, 0, none⟩) Slt, cell_of_row _ _ _ _ _ _ S8.out]; rfl
  have Sx1 : (w8.alloc (.cells #[.int .i64 0, .slice none 0 0, .string ByteArray.empty, .slice none 0 0] 27)).cell? ⟨w1.heap.size, 1, none⟩ = some (.slice none 0 0) := by rw [((Below.refl _ w8).alloc (Nat.le_refl _) _).cell (p := ⟨w1.heap.size, 1, none⟩) Slt, cell_of_row _ _ _ _ _ _ S8.out]; rfl
  have Sx2 : (w8.alloc (.cells #[.int .i64 0, .slice none 0 0, .string ByteArray.empty, .slice none 0 0] 27)).cell? ⟨w1.heap.size, 2, none⟩ = some (.string ByteArray.empty) := by rw [((Below.refl _ w8).alloc (Nat.le_refl _) _).cell (p := ⟨w1.heap.size, 2, none⟩) Slt, cell_of_row _ _ _ _ _ _ S8.out]; rfl
  have Sx3 : (w8.alloc (.cells #[.int .i64 0, .slice none 0 0, .string ByteArray.empty, .slice none 0 0] 27)).cell? ⟨w1.heap.size, 3, none⟩ = some (.slice none 0 0) := by rw [((Below.refl _ w8).alloc (Nat.le_refl _) _).cell (p := ⟨w1.heap.size, 3, none⟩) Slt, cell_of_row _ _ _ _ _ _ S8.out]; rfl
  have Gx0 : (w8.alloc (.cells #[.int .i64 0, .slice none 0 0, .string ByteArray.empty, .slice none 0 0] 27)).cell? ⟨w3.heap.size, 0, none⟩ = some (.int .i64 0) := by rw [((Below.refl _ w8).alloc (Nat.le_refl _) _).cell (p := ⟨w3.heap.size, 0, none⟩) Glt, cell_of_row _ _ _ _ _ _ G8.out]; rfl
  have Gx1 : (w8.alloc (.cells #[.int .i64 0, .slice none 0 0, .string ByteArray.empty, .slice none 0 0] 27)).cell? ⟨w3.heap.size, 1, none⟩ = some (.slice none 0 0) := by rw [((Below.refl _ w8).alloc (Nat.le_refl _) _).cell (p := ⟨w3.heap.size, 1, none⟩) Glt, cell_of_row _ _ _ _ _ _ G8.out]; rfl
  have Gx2 : (w8.alloc (.cells #[.int .i64 0, .slice none 0 0, .string ByteArray.empty, .slice none 0 0] 27)).cell? ⟨w3.heap.size, 2, none⟩ = some (.string ByteArray.empty) := by rw [((Below.refl _ w8).alloc (Nat.le_refl _) _).cell (p := ⟨w3.heap.size, 2, none⟩) Glt, cell_of_row _ _ _ _ _ _ G8.out]; rfl
  have Gx3 : (w8.alloc (.cells #[.int .i64 0, .slice none 0 0, .string ByteArray.empty, .slice none 0 0] 27)).cell? ⟨w3.heap.size, 3, none⟩ = some (.slice none 0 0) := by rw [((Below.refl _ w8).alloc (Nat.le_refl _) _).cell (p := ⟨w3.heap.size, 3, none⟩) Glt, cell_of_row _ _ _ _ _ _ G8.out]; rfl
  go_wp2_with fail
  obtain ⟨w9, hW⟩ : ∃ W, w8.alloc (.cells #[.int .i64 0, .slice none 0 0, .string ByteArray.empty, .slice none 0 0] 27) = W := ⟨_, rfl⟩
  have hb2 : Below w8.heap.size w8 w9 := by rw [← hW]; exact (Below.refl _ _).alloc (Nat.le_refl _) _
  have H9 : Hid (w9.heap[w8.heap.size]? = some (.cells #[.int .i64 0, .slice none 0 0, .string ByteArray.empty, .slice none 0 0] 27 (0, 0))) := by show _ = _; rw [← hW]; exact heap_alloc_new _ _
  have Hlt : w8.heap.size < w9.heap.size := by rw [← hW]; simp
  have HB9 := HB8.trans (hb2.mono hz8)
  have hz9 := HB9.size
  have S9 : Hid _ := (hb2.block w1.heap.size Slt).trans S8.out
  have G9 : Hid _ := (hb2.block w3.heap.size Glt).trans G8.out
  have Slt := Nat.lt_of_lt_of_le Slt hb2.size
  have Glt := Nat.lt_of_lt_of_le Glt hb2.size
  rw [hW]
  clear hW hb2
  clear Sx0 Sx1 Sx2 Sx3
  clear Gx0 Gx1 Gx2 Gx3
  have Sc0 : w9.cell? ⟨w1.heap.size, 0, none⟩ = some (.int .i64 0) := by rw [cell_of_row _ _ _ _ _ _ S9.out]; rfl
  have Sc1 : w9.cell? ⟨w1.heap.size, 1, none⟩ = some (.slice none 0 0) := by rw [cell_of_row _ _ _ _ _ _ S9.out]; rfl
  have Sc2 : w9.cell? ⟨w1.heap.size, 2, none⟩ = some (.string ByteArray.empty) := by rw [cell_of_row _ _ _ _ _ _ S9.out]; rfl
  have Sc3 : w9.cell? ⟨w1.heap.size, 3, none⟩ = some (.slice none 0 0) := by rw [cell_of_row _ _ _ _ _ _ S9.out]; rfl
  have Gc0 : w9.cell? ⟨w3.heap.size, 0, none⟩ = some (.int .i64 0) := by rw [cell_of_row _ _ _ _ _ _ G9.out]; rfl
  have Gc1 : w9.cell? ⟨w3.heap.size, 1, none⟩ = some (.slice none 0 0) := by rw [cell_of_row _ _ _ _ _ _ G9.out]; rfl
  have Gc2 : w9.cell? ⟨w3.heap.size, 2, none⟩ = some (.string ByteArray.empty) := by rw [cell_of_row _ _ _ _ _ _ G9.out]; rfl
  have Gc3 : w9.cell? ⟨w3.heap.size, 3, none⟩ = some (.slice none 0 0) := by rw [cell_of_row _ _ _ _ _ _ G9.out]; rfl
  have Hc0 : w9.cell? ⟨w8.heap.size, 0, none⟩ = some (.int .i64 0) := by rw [cell_of_row _ _ _ _ _ _ H9.out]; rfl
  have Hc1 : w9.cell? ⟨w8.heap.size, 1, none⟩ = some (.slice none 0 0) := by rw [cell_of_row _ _ _ _ _ _ H9.out]; rfl
  have Hc2 : w9.cell? ⟨w8.heap.size, 2, none⟩ = some (.string ByteArray.empty) := by rw [cell_of_row _ _ _ _ _ _ H9.out]; rfl
  have Hc3 : w9.cell? ⟨w8.heap.size, 3, none⟩ = some (.slice none 0 0) := by rw [cell_of_row _ _ _ _ _ _ H9.out]; rfl
  clear Sc0 Sc1 Sc2 Sc3
  clear Gc0 Gc1 Gc2 Gc3
  clear Hc0 Hc1 Hc2 Hc3
  refine (eqServer_any _ _ 0 _ (cl_nil _ _) (cl_nil _ _) (by omega)).mono ?_
  rintro e w10 ⟨rfl, hb⟩
  have S10 : Hid _ := (hb.block w1.heap.size Slt).trans S9.out
  have G10 : Hid _ := (hb.block w3.heap.size Glt).trans G9.out
  have H10 : Hid _ := (hb.block w8.heap.size Hlt).trans H9.out
  have HB10 := HB9.trans (hb.mono hz9)
  have Slt := Nat.lt_of_lt_of_le Slt hb.size
  have Glt := Nat.lt_of_lt_of_le Glt hb.size
  have Hlt := Nat.lt_of_lt_of_le Hlt hb.size
  clear hb
  have hz10 := HB10.size
  have Sc0 : w10.cell? ⟨w1.heap.size, 0, none⟩ = some (.int .i64 0) := by rw [cell_of_row _ _ _ _ _ _ S10.out]; rfl
  have Sc1 : w10.cell? ⟨w1.heap.size, 1, none⟩ = some (.slice none 0 0) := by rw [cell_of_row _ _ _ _ _ _ S10.out]; rfl
  have Sc2 : w10.cell? ⟨w1.heap.size, 2, none⟩ = some (.string ByteArray.empty) := by rw [cell_of_row _ _ _ _ _ _ S10.out]; rfl
  have Sc3 : w10.cell? ⟨w1.heap.size, 3, none⟩ = some (.slice none 0 0) := by rw [cell_of_row _ _ _ _ _ _ S10.out]; rfl
  have Gc0 : w10.cell? ⟨w3.heap.size, 0, none⟩ = some (.int .i64 0) := by rw [cell_of_row _ _ _ _ _ _ G10.out]; rfl
  have Gc1 : w10.cell? ⟨w3.heap.size, 1, none⟩ = some (.slice none 0 0) := by rw [cell_of_row _ _ _ _ _ _ G10.out]; rfl
  have Gc2 : w10.cell? ⟨w3.heap.size, 2, none⟩ = some (.string ByteArray.empty) := by rw [cell_of_row _ _ _ _ _ _ G10.out]; rfl
  have Gc3 : w10.cell? ⟨w3.heap.size, 3, none⟩ = some (.slice none 0 0) := by rw [cell_of_row _ _ _ _ _ _ G10.out]; rfl
  have Hc0 : w10.cell? ⟨w8.heap.size, 0, none⟩ = some (.int .i64 0) := by rw [cell_of_row _ _ _ _ _ _ H10.out]; rfl
  have Hc1 : w10.cell? ⟨w8.heap.size, 1, none⟩ = some (.slice none 0 0) := by rw [cell_of_row _ _ _ _ _ _ H10.out]; rfl
  have Hc2 : w10.cell? ⟨w8.heap.size, 2, none⟩ = some (.string ByteArray.empty) := by rw [cell_of_row _ _ _ _ _ _ H10.out]; rfl
  have Hc3 : w10.cell? ⟨w8.heap.size, 3, none⟩ = some (.slice none 0 0) := by rw [cell_of_row _ _ _ _ _ _ H10.out]; rfl
  go_wp2_with fail
  clear Sc0 Sc1 Sc2 Sc3
  clear Gc0 Gc1 Gc2 Gc3
  clear Hc0 Hc1 Hc2 Hc3
  refine (heldServer_any _ 0 _ (cl_nil _ _) (by omega)).mono ?_
  rintro e w11 ⟨rfl, hb⟩
  have S11 : Hid _ := (hb.block w1.heap.size Slt).trans S10.out
  have G11 : Hid _ := (hb.block w3.heap.size Glt).trans G10.out
  have H11 : Hid _ := (hb.block w8.heap.size Hlt).trans H10.out
  have HB11 := HB10.trans (hb.mono hz10)
  have Slt := Nat.lt_of_lt_of_le Slt hb.size
  have Glt := Nat.lt_of_lt_of_le Glt hb.size
  have Hlt := Nat.lt_of_lt_of_le Hlt hb.size
  clear hb
  have hz11 := HB11.size
  have Sc0 : w11.cell? ⟨w1.heap.size, 0, none⟩ = some (.int .i64 0) := by rw [cell_of_row _ _ _ _ _ _ S11.out]; rfl
  have Sc1 : w11.cell? ⟨w1.heap.size, 1, none⟩ = some (.slice none 0 0) := by rw [cell_of_row _ _ _ _ _ _ S11.out]; rfl
  have Sc2 : w11.cell? ⟨w1.heap.size, 2, none⟩ = some (.string ByteArray.empty) := by rw [cell_of_row _ _ _ _ _ _ S11.out]; rfl
  have Sc3 : w11.cell? ⟨w1.heap.size, 3, none⟩ = some (.slice none 0 0) := by rw [cell_of_row _ _ _ _ _ _ S11.out]; rfl
  have Gc0 : w11.cell? ⟨w3.heap.size, 0, none⟩ = some (.int .i64 0) := by rw [cell_of_row _ _ _ _ _ _ G11.out]; rfl
  have Gc1 : w11.cell? ⟨w3.heap.size, 1, none⟩ = some (.slice none 0 0) := by rw [cell_of_row _ _ _ _ _ _ G11.out]; rfl
  have Gc2 : w11.cell? ⟨w3.heap.size, 2, none⟩ = some (.string ByteArray.empty) := by rw [cell_of_row _ _ _ _ _ _ G11.out]; rfl
  have Gc3 : w11.cell? ⟨w3.heap.size, 3, none⟩ = some (.slice none 0 0) := by rw [cell_of_row _ _ _ _ _ _ G11.out]; rfl
  have Hc0 : w11.cell? ⟨w8.heap.size, 0, none⟩ = some (.int .i64 0) := by rw [cell_of_row _ _ _ _ _ _ H11.out]; rfl
  have Hc1 : w11.cell? ⟨w8.heap.size, 1, none⟩ = some (.slice none 0 0) := by rw [cell_of_row _ _ _ _ _ _ H11.out]; rfl
  have Hc2 : w11.cell? ⟨w8.heap.size, 2, none⟩ = some (.string ByteArray.empty) := by rw [cell_of_row _ _ _ _ _ _ H11.out]; rfl
  have Hc3 : w11.cell? ⟨w8.heap.size, 3, none⟩ = some (.slice none 0 0) := by rw [cell_of_row _ _ _ _ _ _ H11.out]; rfl
  go_wp2_with fail
  go_ret
  exact ⟨rfl, HB11⟩
set_option maxHeartbeats 4000000 in
theorem walk_yes (n : Nat) (w : World) (h0 : 0 < n) (hn : n ≤ 3) :
    Calls Try.prog 3 #[.int .i64 (n : Int)] w fun e w' => e = .returned (.bool true) ∧ Below w.heap.size w w' := by
  have HB0 := Below.refl w.heap.size w
  have hz0 : w.heap.size ≤ w.heap.size := Nat.le_refl _
  go_enter Try.func3, Try.ntmps3
  go_wp2_with fail
  have hne : ¬ (1 + 3 * (n : Int) < 0) := by omega
  refine (specNew_yes (n : Int) n _ h0 hn rfl).mono ?_
  rintro e w1 ⟨vs, rfl, os, hb⟩
  obtain ⟨ax, cs, rfl⟩ := cl_shape (ownsR_reads clC_len os)
  have HB1 := HB0.trans (hb.mono hz0)
  have hz1 := HB1.size
  have qs1 : OwnR clC 6 36 w1 w.heap.size w1.heap.size (.slice ax n cs) (List.replicate n clZ) := ownR_of os
  clear os
  clear hb
  go_wp2_with fail
  obtain ⟨w2, hW⟩ : ∃ W, w1.alloc (.cells #[.int .i64 0, .slice none 0 0, .string ByteArray.empty, .slice ax n cs] 27) = W := ⟨_, rfl⟩
  have hb2 : Below w1.heap.size w1 w2 := by rw [← hW]; exact (Below.refl _ _).alloc (Nat.le_refl _) _
  have S2 : Hid (w2.heap[w1.heap.size]? = some (.cells #[.int .i64 0, .slice none 0 0, .string ByteArray.empty, .slice ax n cs] 27 (0, 0))) := by show _ = _; rw [← hW]; exact heap_alloc_new _ _
  have Slt : w1.heap.size < w2.heap.size := by rw [← hW]; simp
  have HB2 := HB1.trans (hb2.mono hz1)
  have hz2 := HB2.size
  have qs2 := ownR_kept qs1 hb2
  rw [hW]
  clear hW hb2
  have Sc0 : w2.cell? ⟨w1.heap.size, 0, none⟩ = some (.int .i64 0) := by rw [cell_of_row _ _ _ _ _ _ S2.out]; rfl
  have Sc1 : w2.cell? ⟨w1.heap.size, 1, none⟩ = some (.slice none 0 0) := by rw [cell_of_row _ _ _ _ _ _ S2.out]; rfl
  have Sc2 : w2.cell? ⟨w1.heap.size, 2, none⟩ = some (.string ByteArray.empty) := by rw [cell_of_row _ _ _ _ _ _ S2.out]; rfl
  have Sc3 : w2.cell? ⟨w1.heap.size, 3, none⟩ = some (.slice ax n cs) := by rw [cell_of_row _ _ _ _ _ _ S2.out]; rfl
  clear Sc0 Sc1 Sc2 Sc3
  refine (implNew_yes (n : Int) n _ h0 hn rfl).mono ?_
  rintro e w3 ⟨vg, rfl, og, hb⟩
  obtain ⟨ag, cg, rfl⟩ := cl_shape (ownsR_reads clC_len og)
  have HB3 := HB2.trans (hb.mono hz2)
  have hz3 := HB3.size
  have S3 : Hid _ := (hb.block w1.heap.size Slt).trans S2.out
  have Slt := Nat.lt_of_lt_of_le Slt hb.size
  have qs3 := ownR_kept qs2 hb
  have qg3 : OwnR clC 6 36 w3 w2.heap.size w3.heap.size (.slice ag n cg) (List.replicate n clZ) := ownR_of og
  clear og
  clear hb
  have Sx0 : (w3.alloc (.cells #[.int .i64 0, .slice none 0 0, .string ByteArray.empty, .slice ag n cg] 27)).cell? ⟨w1.heap.size, 0, none⟩ = some (.int .i64 0) := by rw [((Below.refl _ w3).alloc (Nat.le_refl _) _).cell (p := ⟨w1.heap.size, 0, none⟩) Slt, cell_of_row _ _ _ _ _ _ S3.out]; rfl
  have Sx1 : (w3.alloc (.cells #[.int .i64 0, .slice none 0 0, .string ByteArray.empty, .slice ag n cg] 27)).cell? ⟨w1.heap.size, 1, none⟩ = some (.slice none 0 0) := by rw [((Below.refl _ w3).alloc (Nat.le_refl _) _).cell (p := ⟨w1.heap.size, 1, none⟩) Slt, cell_of_row _ _ _ _ _ _ S3.out]; rfl
  have Sx2 : (w3.alloc (.cells #[.int .i64 0, .slice none 0 0, .string ByteArray.empty, .slice ag n cg] 27)).cell? ⟨w1.heap.size, 2, none⟩ = some (.string ByteArray.empty) := by rw [((Below.refl _ w3).alloc (Nat.le_refl _) _).cell (p := ⟨w1.heap.size, 2, none⟩) Slt, cell_of_row _ _ _ _ _ _ S3.out]; rfl
  have Sx3 : (w3.alloc (.cells #[.int .i64 0, .slice none 0 0, .string ByteArray.empty, .slice ag n cg] 27)).cell? ⟨w1.heap.size, 3, none⟩ = some (.slice ax n cs) := by rw [((Below.refl _ w3).alloc (Nat.le_refl _) _).cell (p := ⟨w1.heap.size, 3, none⟩) Slt, cell_of_row _ _ _ _ _ _ S3.out]; rfl
  go_wp2_with fail
  obtain ⟨w4, hW⟩ : ∃ W, w3.alloc (.cells #[.int .i64 0, .slice none 0 0, .string ByteArray.empty, .slice ag n cg] 27) = W := ⟨_, rfl⟩
  have hb2 : Below w3.heap.size w3 w4 := by rw [← hW]; exact (Below.refl _ _).alloc (Nat.le_refl _) _
  have G4 : Hid (w4.heap[w3.heap.size]? = some (.cells #[.int .i64 0, .slice none 0 0, .string ByteArray.empty, .slice ag n cg] 27 (0, 0))) := by show _ = _; rw [← hW]; exact heap_alloc_new _ _
  have Glt : w3.heap.size < w4.heap.size := by rw [← hW]; simp
  have HB4 := HB3.trans (hb2.mono hz3)
  have hz4 := HB4.size
  have S4 : Hid _ := (hb2.block w1.heap.size Slt).trans S3.out
  have Slt := Nat.lt_of_lt_of_le Slt hb2.size
  have qs4 := ownR_kept qs3 hb2
  have qg4 := ownR_kept qg3 hb2
  rw [hW]
  clear hW hb2
  clear Sx0 Sx1 Sx2 Sx3
  have Sc0 : w4.cell? ⟨w1.heap.size, 0, none⟩ = some (.int .i64 0) := by rw [cell_of_row _ _ _ _ _ _ S4.out]; rfl
  have Sc1 : w4.cell? ⟨w1.heap.size, 1, none⟩ = some (.slice none 0 0) := by rw [cell_of_row _ _ _ _ _ _ S4.out]; rfl
  have Sc2 : w4.cell? ⟨w1.heap.size, 2, none⟩ = some (.string ByteArray.empty) := by rw [cell_of_row _ _ _ _ _ _ S4.out]; rfl
  have Sc3 : w4.cell? ⟨w1.heap.size, 3, none⟩ = some (.slice ax n cs) := by rw [cell_of_row _ _ _ _ _ _ S4.out]; rfl
  have Gc0 : w4.cell? ⟨w3.heap.size, 0, none⟩ = some (.int .i64 0) := by rw [cell_of_row _ _ _ _ _ _ G4.out]; rfl
  have Gc1 : w4.cell? ⟨w3.heap.size, 1, none⟩ = some (.slice none 0 0) := by rw [cell_of_row _ _ _ _ _ _ G4.out]; rfl
  have Gc2 : w4.cell? ⟨w3.heap.size, 2, none⟩ = some (.string ByteArray.empty) := by rw [cell_of_row _ _ _ _ _ _ G4.out]; rfl
  have Gc3 : w4.cell? ⟨w3.heap.size, 3, none⟩ = some (.slice ag n cg) := by rw [cell_of_row _ _ _ _ _ _ G4.out]; rfl
  clear Sc0 Sc1 Sc2 Sc3
  clear Gc0 Gc1 Gc2 Gc3
  refine (eqServer_any _ _ n _ (ownR_reads clC_len qg4) (ownR_reads clC_len qs4) hn).mono ?_
  rintro e w5 ⟨rfl, hb⟩
  have S5 : Hid _ := (hb.block w1.heap.size Slt).trans S4.out
  have G5 : Hid _ := (hb.block w3.heap.size Glt).trans G4.out
  have HB5 := HB4.trans (hb.mono hz4)
  have Slt := Nat.lt_of_lt_of_le Slt hb.size
  have Glt := Nat.lt_of_lt_of_le Glt hb.size
  have qs5 := ownR_kept qs4 hb
  have qg5 := ownR_kept qg4 hb
  clear hb
  have hz5 := HB5.size
  have Sc0 : w5.cell? ⟨w1.heap.size, 0, none⟩ = some (.int .i64 0) := by rw [cell_of_row _ _ _ _ _ _ S5.out]; rfl
  have Sc1 : w5.cell? ⟨w1.heap.size, 1, none⟩ = some (.slice none 0 0) := by rw [cell_of_row _ _ _ _ _ _ S5.out]; rfl
  have Sc2 : w5.cell? ⟨w1.heap.size, 2, none⟩ = some (.string ByteArray.empty) := by rw [cell_of_row _ _ _ _ _ _ S5.out]; rfl
  have Sc3 : w5.cell? ⟨w1.heap.size, 3, none⟩ = some (.slice ax n cs) := by rw [cell_of_row _ _ _ _ _ _ S5.out]; rfl
  have Gc0 : w5.cell? ⟨w3.heap.size, 0, none⟩ = some (.int .i64 0) := by rw [cell_of_row _ _ _ _ _ _ G5.out]; rfl
  have Gc1 : w5.cell? ⟨w3.heap.size, 1, none⟩ = some (.slice none 0 0) := by rw [cell_of_row _ _ _ _ _ _ G5.out]; rfl
  have Gc2 : w5.cell? ⟨w3.heap.size, 2, none⟩ = some (.string ByteArray.empty) := by rw [cell_of_row _ _ _ _ _ _ G5.out]; rfl
  have Gc3 : w5.cell? ⟨w3.heap.size, 3, none⟩ = some (.slice ag n cg) := by rw [cell_of_row _ _ _ _ _ _ G5.out]; rfl
  go_wp2_with fail
  clear Sc0 Sc1 Sc2 Sc3
  clear Gc0 Gc1 Gc2 Gc3
  refine (markServer_any _ n _ _ qg5.1 h0 hn).mono ?_
  rintro e w6 ⟨rfl, om, hg⟩
  have S6 : Hid _ := box_grown S5.out hg (fun e => by have h1 := qg5.2 _ e.symm; have h2 := (qg5.1.lt _ e.symm).1; omega)
  have G6 : Hid _ := box_grown G5.out hg (fun e => by have h1 := qg5.2 _ e.symm; have h2 := (qg5.1.lt _ e.symm).1; omega)
  have HB6 := below_ownR HB5 hz5 qg5 (by omega) hg
  have Slt := Nat.lt_of_lt_of_le Slt hg.size
  have Glt := Nat.lt_of_lt_of_le Glt hg.size
  have qs6 := ownR_apart qs5 qg5 hg (by omega)
  have qg6 : OwnR clC 6 36 w6 _ _ _ (List.replicate n clM) := ⟨om, qg5.2⟩
  clear om hg
  have hz6 := HB6.size
  have Sc0 : w6.cell? ⟨w1.heap.size, 0, none⟩ = some (.int .i64 0) := by rw [cell_of_row _ _ _ _ _ _ S6.out]; rfl
  have Sc1 : w6.cell? ⟨w1.heap.size, 1, none⟩ = some (.slice none 0 0) := by rw [cell_of_row _ _ _ _ _ _ S6.out]; rfl
  have Sc2 : w6.cell? ⟨w1.heap.size, 2, none⟩ = some (.string ByteArray.empty) := by rw [cell_of_row _ _ _ _ _ _ S6.out]; rfl
  have Sc3 : w6.cell? ⟨w1.heap.size, 3, none⟩ = some (.slice ax n cs) := by rw [cell_of_row _ _ _ _ _ _ S6.out]; rfl
  have Gc0 : w6.cell? ⟨w3.heap.size, 0, none⟩ = some (.int .i64 0) := by rw [cell_of_row _ _ _ _ _ _ G6.out]; rfl
  have Gc1 : w6.cell? ⟨w3.heap.size, 1, none⟩ = some (.slice none 0 0) := by rw [cell_of_row _ _ _ _ _ _ G6.out]; rfl
  have Gc2 : w6.cell? ⟨w3.heap.size, 2, none⟩ = some (.string ByteArray.empty) := by rw [cell_of_row _ _ _ _ _ _ G6.out]; rfl
  have Gc3 : w6.cell? ⟨w3.heap.size, 3, none⟩ = some (.slice ag n cg) := by rw [cell_of_row _ _ _ _ _ _ G6.out]; rfl
  go_wp2_with fail
  clear Sc0 Sc1 Sc2 Sc3
  clear Gc0 Gc1 Gc2 Gc3
  refine (heldServer_any _ n _ (ownR_reads clC_len qg6) hn).mono ?_
  rintro e w7 ⟨rfl, hb⟩
  have S7 : Hid _ := (hb.block w1.heap.size Slt).trans S6.out
  have G7 : Hid _ := (hb.block w3.heap.size Glt).trans G6.out
  have HB7 := HB6.trans (hb.mono hz6)
  have Slt := Nat.lt_of_lt_of_le Slt hb.size
  have Glt := Nat.lt_of_lt_of_le Glt hb.size
  have qs7 := ownR_kept qs6 hb
  have qg7 := ownR_kept qg6 hb
  clear hb
  have hz7 := HB7.size
  have Sc0 : w7.cell? ⟨w1.heap.size, 0, none⟩ = some (.int .i64 0) := by rw [cell_of_row _ _ _ _ _ _ S7.out]; rfl
  have Sc1 : w7.cell? ⟨w1.heap.size, 1, none⟩ = some (.slice none 0 0) := by rw [cell_of_row _ _ _ _ _ _ S7.out]; rfl
  have Sc2 : w7.cell? ⟨w1.heap.size, 2, none⟩ = some (.string ByteArray.empty) := by rw [cell_of_row _ _ _ _ _ _ S7.out]; rfl
  have Sc3 : w7.cell? ⟨w1.heap.size, 3, none⟩ = some (.slice ax n cs) := by rw [cell_of_row _ _ _ _ _ _ S7.out]; rfl
  have Gc0 : w7.cell? ⟨w3.heap.size, 0, none⟩ = some (.int .i64 0) := by rw [cell_of_row _ _ _ _ _ _ G7.out]; rfl
  have Gc1 : w7.cell? ⟨w3.heap.size, 1, none⟩ = some (.slice none 0 0) := by rw [cell_of_row _ _ _ _ _ _ G7.out]; rfl
  have Gc2 : w7.cell? ⟨w3.heap.size, 2, none⟩ = some (.string ByteArray.empty) := by rw [cell_of_row _ _ _ _ _ _ G7.out]; rfl
  have Gc3 : w7.cell? ⟨w3.heap.size, 3, none⟩ = some (.slice ag n cg) := by rw [cell_of_row _ _ _ _ _ _ G7.out]; rfl
  go_wp2_with fail
  clear Sc0 Sc1 Sc2 Sc3
  clear Gc0 Gc1 Gc2 Gc3
  refine (implNew_yes (n : Int) n _ h0 hn rfl).mono ?_
  rintro e w8 ⟨vh, rfl, oh, hb⟩
  obtain ⟨ah, ch, rfl⟩ := cl_shape (ownsR_reads clC_len oh)
  have HB8 := HB7.trans (hb.mono hz7)
  have hz8 := HB8.size
  have S8 : Hid _ := (hb.block w1.heap.size Slt).trans S7.out
  have G8 : Hid _ := (hb.block w3.heap.size Glt).trans G7.out
  have Slt := Nat.lt_of_lt_of_le Slt hb.size
  have Glt := Nat.lt_of_lt_of_le Glt hb.size
  have qs8 := ownR_kept qs7 hb
  have qg8 := ownR_kept qg7 hb
  have qh8 : OwnR clC 6 36 w8 w7.heap.size w8.heap.size (.slice ah n ch) (List.replicate n clZ) := ownR_of oh
  clear oh
  clear hb
  have Sx0 : (w8.alloc (.cells #[.int .i64 0, .slice none 0 0, .string ByteArray.empty, .slice ah n ch] 27)).cell? ⟨w1.heap.size, 0, none⟩ = some (.int .i64 0) := by rw [((Below.refl _ w8).alloc (Nat.le_refl _) _).cell (p := ⟨w1.heap.size, 0, none⟩) Slt, cell_of_row _ _ _ _ _ _ S8.out]; rfl
  have Sx1 : (w8.alloc (.cells #[.int .i64 0, .slice none 0 0, .string ByteArray.empty, .slice ah n ch] 27)).cell? ⟨w1.heap.size, 1, none⟩ = some (.slice none 0 0) := by rw [((Below.refl _ w8).alloc (Nat.le_refl _) _).cell (p := ⟨w1.heap.size, 1, none⟩) Slt, cell_of_row _ _ _ _ _ _ S8.out]; rfl
  have Sx2 : (w8.alloc (.cells #[.int .i64 0, .slice none 0 0, .string ByteArray.empty, .slice ah n ch] 27)).cell? ⟨w1.heap.size, 2, none⟩ = some (.string ByteArray.empty) := by rw [((Below.refl _ w8).alloc (Nat.le_refl _) _).cell (p := ⟨w1.heap.size, 2, none⟩) Slt, cell_of_row _ _ _ _ _ _ S8.out]; rfl
  have Sx3 : (w8.alloc (.cells #[.int .i64 0, .slice none 0 0, .string ByteArray.empty, .slice ah n ch] 27)).cell? ⟨w1.heap.size, 3, none⟩ = some (.slice ax n cs) := by rw [((Below.refl _ w8).alloc (Nat.le_refl _) _).cell (p := ⟨w1.heap.size, 3, none⟩) Slt, cell_of_row _ _ _ _ _ _ S8.out]; rfl
  have Gx0 : (w8.alloc (.cells #[.int .i64 0, .slice none 0 0, .string ByteArray.empty, .slice ah n ch] 27)).cell? ⟨w3.heap.size, 0, none⟩ = some (.int .i64 0) := by rw [((Below.refl _ w8).alloc (Nat.le_refl _) _).cell (p := ⟨w3.heap.size, 0, none⟩) Glt, cell_of_row _ _ _ _ _ _ G8.out]; rfl
  have Gx1 : (w8.alloc (.cells #[.int .i64 0, .slice none 0 0, .string ByteArray.empty, .slice ah n ch] 27)).cell? ⟨w3.heap.size, 1, none⟩ = some (.slice none 0 0) := by rw [((Below.refl _ w8).alloc (Nat.le_refl _) _).cell (p := ⟨w3.heap.size, 1, none⟩) Glt, cell_of_row _ _ _ _ _ _ G8.out]; rfl
  have Gx2 : (w8.alloc (.cells #[.int .i64 0, .slice none 0 0, .string ByteArray.empty, .slice ah n ch] 27)).cell? ⟨w3.heap.size, 2, none⟩ = some (.string ByteArray.empty) := by rw [((Below.refl _ w8).alloc (Nat.le_refl _) _).cell (p := ⟨w3.heap.size, 2, none⟩) Glt, cell_of_row _ _ _ _ _ _ G8.out]; rfl
  have Gx3 : (w8.alloc (.cells #[.int .i64 0, .slice none 0 0, .string ByteArray.empty, .slice ah n ch] 27)).cell? ⟨w3.heap.size, 3, none⟩ = some (.slice ag n cg) := by rw [((Below.refl _ w8).alloc (Nat.le_refl _) _).cell (p := ⟨w3.heap.size, 3, none⟩) Glt, cell_of_row _ _ _ _ _ _ G8.out]; rfl
  go_wp2_with fail
  obtain ⟨w9, hW⟩ : ∃ W, w8.alloc (.cells #[.int .i64 0, .slice none 0 0, .string ByteArray.empty, .slice ah n ch] 27) = W := ⟨_, rfl⟩
  have hb2 : Below w8.heap.size w8 w9 := by rw [← hW]; exact (Below.refl _ _).alloc (Nat.le_refl _) _
  have H9 : Hid (w9.heap[w8.heap.size]? = some (.cells #[.int .i64 0, .slice none 0 0, .string ByteArray.empty, .slice ah n ch] 27 (0, 0))) := by show _ = _; rw [← hW]; exact heap_alloc_new _ _
  have Hlt : w8.heap.size < w9.heap.size := by rw [← hW]; simp
  have HB9 := HB8.trans (hb2.mono hz8)
  have hz9 := HB9.size
  have S9 : Hid _ := (hb2.block w1.heap.size Slt).trans S8.out
  have G9 : Hid _ := (hb2.block w3.heap.size Glt).trans G8.out
  have Slt := Nat.lt_of_lt_of_le Slt hb2.size
  have Glt := Nat.lt_of_lt_of_le Glt hb2.size
  have qs9 := ownR_kept qs8 hb2
  have qg9 := ownR_kept qg8 hb2
  have qh9 := ownR_kept qh8 hb2
  rw [hW]
  clear hW hb2
  clear Sx0 Sx1 Sx2 Sx3
  clear Gx0 Gx1 Gx2 Gx3
  have Sc0 : w9.cell? ⟨w1.heap.size, 0, none⟩ = some (.int .i64 0) := by rw [cell_of_row _ _ _ _ _ _ S9.out]; rfl
  have Sc1 : w9.cell? ⟨w1.heap.size, 1, none⟩ = some (.slice none 0 0) := by rw [cell_of_row _ _ _ _ _ _ S9.out]; rfl
  have Sc2 : w9.cell? ⟨w1.heap.size, 2, none⟩ = some (.string ByteArray.empty) := by rw [cell_of_row _ _ _ _ _ _ S9.out]; rfl
  have Sc3 : w9.cell? ⟨w1.heap.size, 3, none⟩ = some (.slice ax n cs) := by rw [cell_of_row _ _ _ _ _ _ S9.out]; rfl
  have Gc0 : w9.cell? ⟨w3.heap.size, 0, none⟩ = some (.int .i64 0) := by rw [cell_of_row _ _ _ _ _ _ G9.out]; rfl
  have Gc1 : w9.cell? ⟨w3.heap.size, 1, none⟩ = some (.slice none 0 0) := by rw [cell_of_row _ _ _ _ _ _ G9.out]; rfl
  have Gc2 : w9.cell? ⟨w3.heap.size, 2, none⟩ = some (.string ByteArray.empty) := by rw [cell_of_row _ _ _ _ _ _ G9.out]; rfl
  have Gc3 : w9.cell? ⟨w3.heap.size, 3, none⟩ = some (.slice ag n cg) := by rw [cell_of_row _ _ _ _ _ _ G9.out]; rfl
  have Hc0 : w9.cell? ⟨w8.heap.size, 0, none⟩ = some (.int .i64 0) := by rw [cell_of_row _ _ _ _ _ _ H9.out]; rfl
  have Hc1 : w9.cell? ⟨w8.heap.size, 1, none⟩ = some (.slice none 0 0) := by rw [cell_of_row _ _ _ _ _ _ H9.out]; rfl
  have Hc2 : w9.cell? ⟨w8.heap.size, 2, none⟩ = some (.string ByteArray.empty) := by rw [cell_of_row _ _ _ _ _ _ H9.out]; rfl
  have Hc3 : w9.cell? ⟨w8.heap.size, 3, none⟩ = some (.slice ah n ch) := by rw [cell_of_row _ _ _ _ _ _ H9.out]; rfl
  clear Sc0 Sc1 Sc2 Sc3
  clear Gc0 Gc1 Gc2 Gc3
  clear Hc0 Hc1 Hc2 Hc3
  refine (eqServer_any _ _ n _ (ownR_reads clC_len qh9) (ownR_reads clC_len qs9) hn).mono ?_
  rintro e w10 ⟨rfl, hb⟩
  have S10 : Hid _ := (hb.block w1.heap.size Slt).trans S9.out
  have G10 : Hid _ := (hb.block w3.heap.size Glt).trans G9.out
  have H10 : Hid _ := (hb.block w8.heap.size Hlt).trans H9.out
  have HB10 := HB9.trans (hb.mono hz9)
  have Slt := Nat.lt_of_lt_of_le Slt hb.size
  have Glt := Nat.lt_of_lt_of_le Glt hb.size
  have Hlt := Nat.lt_of_lt_of_le Hlt hb.size
  have qs10 := ownR_kept qs9 hb
  have qg10 := ownR_kept qg9 hb
  have qh10 := ownR_kept qh9 hb
  clear hb
  have hz10 := HB10.size
  have Sc0 : w10.cell? ⟨w1.heap.size, 0, none⟩ = some (.int .i64 0) := by rw [cell_of_row _ _ _ _ _ _ S10.out]; rfl
  have Sc1 : w10.cell? ⟨w1.heap.size, 1, none⟩ = some (.slice none 0 0) := by rw [cell_of_row _ _ _ _ _ _ S10.out]; rfl
  have Sc2 : w10.cell? ⟨w1.heap.size, 2, none⟩ = some (.string ByteArray.empty) := by rw [cell_of_row _ _ _ _ _ _ S10.out]; rfl
  have Sc3 : w10.cell? ⟨w1.heap.size, 3, none⟩ = some (.slice ax n cs) := by rw [cell_of_row _ _ _ _ _ _ S10.out]; rfl
  have Gc0 : w10.cell? ⟨w3.heap.size, 0, none⟩ = some (.int .i64 0) := by rw [cell_of_row _ _ _ _ _ _ G10.out]; rfl
  have Gc1 : w10.cell? ⟨w3.heap.size, 1, none⟩ = some (.slice none 0 0) := by rw [cell_of_row _ _ _ _ _ _ G10.out]; rfl
  have Gc2 : w10.cell? ⟨w3.heap.size, 2, none⟩ = some (.string ByteArray.empty) := by rw [cell_of_row _ _ _ _ _ _ G10.out]; rfl
  have Gc3 : w10.cell? ⟨w3.heap.size, 3, none⟩ = some (.slice ag n cg) := by rw [cell_of_row _ _ _ _ _ _ G10.out]; rfl
  have Hc0 : w10.cell? ⟨w8.heap.size, 0, none⟩ = some (.int .i64 0) := by rw [cell_of_row _ _ _ _ _ _ H10.out]; rfl
  have Hc1 : w10.cell? ⟨w8.heap.size, 1, none⟩ = some (.slice none 0 0) := by rw [cell_of_row _ _ _ _ _ _ H10.out]; rfl
  have Hc2 : w10.cell? ⟨w8.heap.size, 2, none⟩ = some (.string ByteArray.empty) := by rw [cell_of_row _ _ _ _ _ _ H10.out]; rfl
  have Hc3 : w10.cell? ⟨w8.heap.size, 3, none⟩ = some (.slice ah n ch) := by rw [cell_of_row _ _ _ _ _ _ H10.out]; rfl
  go_wp2_with fail
  clear Sc0 Sc1 Sc2 Sc3
  clear Gc0 Gc1 Gc2 Gc3
  clear Hc0 Hc1 Hc2 Hc3
  refine (heldServer_any _ n _ (ownR_reads clC_len qg10) hn).mono ?_
  rintro e w11 ⟨rfl, hb⟩
  have S11 : Hid _ := (hb.block w1.heap.size Slt).trans S10.out
  have G11 : Hid _ := (hb.block w3.heap.size Glt).trans G10.out
  have H11 : Hid _ := (hb.block w8.heap.size Hlt).trans H10.out
  have HB11 := HB10.trans (hb.mono hz10)
  have Slt := Nat.lt_of_lt_of_le Slt hb.size
  have Glt := Nat.lt_of_lt_of_le Glt hb.size
  have Hlt := Nat.lt_of_lt_of_le Hlt hb.size
  have qs11 := ownR_kept qs10 hb
  have qg11 := ownR_kept qg10 hb
  have qh11 := ownR_kept qh10 hb
  clear hb
  have hz11 := HB11.size
  have Sc0 : w11.cell? ⟨w1.heap.size, 0, none⟩ = some (.int .i64 0) := by rw [cell_of_row _ _ _ _ _ _ S11.out]; rfl
  have Sc1 : w11.cell? ⟨w1.heap.size, 1, none⟩ = some (.slice none 0 0) := by rw [cell_of_row _ _ _ _ _ _ S11.out]; rfl
  have Sc2 : w11.cell? ⟨w1.heap.size, 2, none⟩ = some (.string ByteArray.empty) := by rw [cell_of_row _ _ _ _ _ _ S11.out]; rfl
  have Sc3 : w11.cell? ⟨w1.heap.size, 3, none⟩ = some (.slice ax n cs) := by rw [cell_of_row _ _ _ _ _ _ S11.out]; rfl
  have Gc0 : w11.cell? ⟨w3.heap.size, 0, none⟩ = some (.int .i64 0) := by rw [cell_of_row _ _ _ _ _ _ G11.out]; rfl
  have Gc1 : w11.cell? ⟨w3.heap.size, 1, none⟩ = some (.slice none 0 0) := by rw [cell_of_row _ _ _ _ _ _ G11.out]; rfl
  have Gc2 : w11.cell? ⟨w3.heap.size, 2, none⟩ = some (.string ByteArray.empty) := by rw [cell_of_row _ _ _ _ _ _ G11.out]; rfl
  have Gc3 : w11.cell? ⟨w3.heap.size, 3, none⟩ = some (.slice ag n cg) := by rw [cell_of_row _ _ _ _ _ _ G11.out]; rfl
  have Hc0 : w11.cell? ⟨w8.heap.size, 0, none⟩ = some (.int .i64 0) := by rw [cell_of_row _ _ _ _ _ _ H11.out]; rfl
  have Hc1 : w11.cell? ⟨w8.heap.size, 1, none⟩ = some (.slice none 0 0) := by rw [cell_of_row _ _ _ _ _ _ H11.out]; rfl
  have Hc2 : w11.cell? ⟨w8.heap.size, 2, none⟩ = some (.string ByteArray.empty) := by rw [cell_of_row _ _ _ _ _ _ H11.out]; rfl
  have Hc3 : w11.cell? ⟨w8.heap.size, 3, none⟩ = some (.slice ah n ch) := by rw [cell_of_row _ _ _ _ _ _ H11.out]; rfl
  go_wp2_with fail
  go_ret
  exact ⟨rfl, HB11⟩
theorem walk (a0 : Int) (w : World) (wf0 : (Lit.int .i64 a0).wf = true) :
    Calls Try.prog 3 #[.int .i64 a0] w fun e w' => e = .returned (.bool true) ∧ Below w.heap.size w w' := by
  by_cases h : a0 < 1 ∨ 3 < a0
  · exact walk_no a0 w h
  · obtain ⟨n, rfl⟩ := Int.eq_ofNat_of_zero_le (show 0 ≤ a0 by omega)
    exact walk_yes n w (by omega) (by omega)

set_option maxRecDepth 100000 in
theorem lifted (os : Os) (started : os.Started) (H : Type) (enc : TypeId × Value → H) :
    ReturnsInHanded {} Try.checked os 3 .any (Rows.fnExactServerNewSpec.pre6 enc Try.prog Try.f3 Rows.fnExactServerNewRow.domain false) (Rows.fnExactServerNewSpec.post enc Try.prog Try.f3 false true false false) := by
  refine returnsInHanded_of_change (C := Try.checked) own started (by kernel_rfl) Try.func3
    (ChangeSpec.witness6 (enc := enc) (C := Try.checked) false ⟨#[], #[.int .i64 0], []⟩ 8 (by kernel_rfl) (by kernel_rfl) (by kernel_rfl) (by kernel_rfl)) ?_
  intro W base args ds gs before hval0 hW hcnd _
  have hval : ∀ (j : Nat) t v, Try.f3.params[j]? = some t → args[j]? = some v → Value.okWide Try.prog W .any base t v := hval0
  have hW' := hW
  obtain ⟨p, q, hA0, hV, rfl, hfz, hnd⟩ := hW
  have hA : DataW.TrodAll enc Try.prog W 0 (fun _ => true) true Try.f3.params.toList args.toList ds p := hA0
  rw [Try.params3] at hA hval
  obtain ⟨v0, vs0, d0, ds0, p0, q0, hargs, rfl, rfl, h0, r0⟩ := trodAll_cons hA
  obtain ⟨rfl, rfl, rfl⟩ := trodAll_nil r0
  obtain rfl : args = #[v0] := by cases args; simp_all
  obtain ⟨rfl, rfl⟩ := trodVars_none hV
  obtain ⟨a0, rfl, rfl, rfl, w0⟩ := open_int Try.underlying3 (hval 0 3 v0 rfl rfl) h0
  clear hA0 hval0
  refine (walk a0 W w0).mono fun e W' ⟨he, bel⟩ => ?_
  subst he
  exact ⟨_, rfl, _, _, _, [], _, [], hW', trodAll_mk1 (shut_bool Try.underlying4 _), (trodAll_cons_mk (shut_int Try.underlying3 w0) trodAll_mk0), rfl, bel.frame _, fun h => by cases h⟩

theorem over : Rows.fnExactServerNewRow.holds Try.pinned (OpenSpec.ofChange Rows.fnExactServerNewSpec) :=
  OpenClaim.holds_of_wide 3 Try.f3 rfl rfl rfl rfl rfl rfl rfl ⟨rfl, rfl, rfl, rfl, rfl⟩ rfl rfl rfl rfl rfl (by kernel_rfl) Try.func3 (by kernel_rfl)
    (of_decide_eq_true (by kernel_rfl)) (by unfold Func.isWrapper; first | (rw [if_pos (by decide +kernel)]; kernel_rfl) | (rw [if_neg (by decide +kernel)]; exact ⟨rfl, rfl⟩))
    (fun os started H enc _ => lifted os started H enc)

theorem proved : Rows.FnExactServerNewSaid := over
end Go.Proofs.Ytppggedafdfjoaa.fnExactServerNew
