/- The reader of orders: steps that only ask what the byte is, and say what comes next. -/
import Derived.Test.YtfoflnolmlgnfaaDoorBldF
namespace Go.Proofs.YtfoflnolmlgnfaaDoor
open Go.RowKit

/-- a step, bound to the reader -/
def stp (k r : Nat) : Value := .func (.func k) #[.pointer (some ⟨r, 0, none⟩)] #[]
theorem eb_keep {w : World} {B r o : Nat} {p : Value} {buf : List UInt8} {x2 x3 x4 x5 : Value} (h : EB w B r p buf x2 x3 x4 x5) (y : Value) {y2 y3 y4 y5 : Value}
    (hb : ∀ v, (#[p, v, x2, x3, x4, x5] : Array Value).setIfInBounds o y = #[p, v, y2, y3, y4, y5]) : EB (w.setCell ⟨r, o, none⟩ y) B r p buf y2 y3 y4 y5 := by
  obtain ⟨hB, v, hbk, hown, hne, hn⟩ := h
  refine ⟨hB, v, ?_, ?_, hne, hn⟩
  · rw [heap_setCell_same w r o _ _ _ hbk, hb]
  · refine World.ownsRowF.kept (row := some r) hown ⟨rfl, rfl, rfl, ((Below.refl 0 w).setCell (p := ⟨r, o, none⟩) (Nat.zero_le _) _).size, fun k hk hkr => Below.heap_setCell w ⟨r, o, none⟩ _ k (fun e => hkr (by rw [e]))⟩ ?_
    cases hv : v.ownBlock with
    | none => exact .inl rfl
    | some k => right; rw [hv] at hne; exact hne
theorem eb_step {w : World} {B r : Nat} {p : Value} {buf : List UInt8} {x2 x3 x4 x5 : Value} (h : EB w B r p buf x2 x3 x4 x5) (y : Value) : EB (w.setCell ⟨r, 2, none⟩ y) B r p buf y x3 x4 x5 := eb_keep h y (fun _ => rfl)
theorem eb_cell2 {w : World} {B r : Nat} {p : Value} {buf : List UInt8} {x2 x3 x4 x5 : Value} (h : EB w B r p buf x2 x3 x4 x5) : w.cell? ⟨r, 2, none⟩ = some x2 ∧ w.cell? ⟨r, 3, none⟩ = some x3 ∧ w.cell? ⟨r, 4, none⟩ = some x4 ∧ w.cell? ⟨r, 5, none⟩ = some x5 := by
  obtain ⟨hB, v, hb, _⟩ := h
  refine ⟨?_, ?_, ?_, ?_⟩ <;> (rw [Lib.cell_of_heap hb]; rfl)
theorem eb_frozen {w : World} {B r : Nat} {p : Value} {buf : List UInt8} {x2 x3 x4 x5 : Value} (h : EB w B r p buf x2 x3 x4 x5) (o : Nat) : w.frozen? ⟨r, o, none⟩ = false := by
  obtain ⟨hB, v, hb, _⟩ := h; exact Lib.frozen_of_heap hb o
set_option maxHeartbeats 1000000 in
theorem star_any (B r : Nat) (p : Value) (buf : List UInt8) (x2 x3 x4 x5 : Value) (c : UInt8) (w : World) (h : EB w B r p buf x2 x3 x4 x5) :
    Calls Tryd.prog 35 #[.pointer (some ⟨r, 0, none⟩), .int .u8 (c.toNat : Int)] w fun e w' => e = .returned (.bool ((c.toNat : Int) == 42)) ∧ EB w' B r p buf (stp 61 r) x3 x4 x5 ∧ Below B w w' ∧ Lib.OthersKept 5 (some r) w w' := by
  have hc := (eb_cell2 h).1
  have hf := eb_frozen h 2
  have hE := eb_step h (stp 61 r)
  have hB := h.1
  have hrs := fun (w : World) (a : Addr) => run_store Tryd.prog w a (.func (.func 61) #[.pointer (some ⟨r, 0, none⟩)] #[]) .plain rfl
  go_enter Tryd.func35, Tryd.ntmps35
  go_wp2_with fail
  go_ret
  exact ⟨rfl, hE, (Below.refl B w).setCell (p := ⟨r, 2, none⟩) hB _, (Lib.OthersKept.refl _ _ w).setCell ⟨r, 2, none⟩ rfl _⟩
set_option maxHeartbeats 1000000 in
theorem manyEnd_any (B r : Nat) (p : Value) (buf : List UInt8) (x2 x3 x4 x5 : Value) (c : UInt8) (w : World) (h : EB w B r p buf x2 x3 x4 x5) :
    Calls Tryd.prog 70 #[.pointer (some ⟨r, 0, none⟩), .int .u8 (c.toNat : Int)] w fun e w' => e = .returned (.bool ((c.toNat : Int) == 10)) ∧ EB w' B r p buf (stp 76 r) x3 x4 x5 ∧ Below B w w' ∧ Lib.OthersKept 5 (some r) w w' := by
  have hc := (eb_cell2 h).1
  have hf := eb_frozen h 2
  have hE := eb_step h (stp 76 r)
  have hB := h.1
  have hrs := fun (w : World) (a : Addr) => run_store Tryd.prog w a (.func (.func 76) #[.pointer (some ⟨r, 0, none⟩)] #[]) .plain rfl
  go_enter Tryd.func70, Tryd.ntmps70
  go_wp2_with fail
  go_ret
  exact ⟨rfl, hE, (Below.refl B w).setCell (p := ⟨r, 2, none⟩) hB _, (Lib.OthersKept.refl _ _ w).setCell ⟨r, 2, none⟩ rfl _⟩
set_option maxHeartbeats 1000000 in
theorem dollar_any (B r : Nat) (p : Value) (buf : List UInt8) (x2 x3 x4 x5 : Value) (c : UInt8) (w : World) (h : EB w B r p buf x2 x3 x4 x5) :
    Calls Tryd.prog 76 #[.pointer (some ⟨r, 0, none⟩), .int .u8 (c.toNat : Int)] w fun e w' => e = .returned (.bool ((c.toNat : Int) == 36)) ∧ EB w' B r p buf (stp 80 r) x3 x4 x5 ∧ Below B w w' ∧ Lib.OthersKept 5 (some r) w w' := by
  have hc := (eb_cell2 h).1
  have hf := eb_frozen h 2
  have hE := eb_step h (stp 80 r)
  have hB := h.1
  have hrs := fun (w : World) (a : Addr) => run_store Tryd.prog w a (.func (.func 80) #[.pointer (some ⟨r, 0, none⟩)] #[]) .plain rfl
  go_enter Tryd.func76, Tryd.ntmps76
  go_wp2_with fail
  go_ret
  exact ⟨rfl, hE, (Below.refl B w).setCell (p := ⟨r, 2, none⟩) hB _, (Lib.OthersKept.refl _ _ w).setCell ⟨r, 2, none⟩ rfl _⟩
set_option maxHeartbeats 1000000 in
theorem wordReturn_any (B r : Nat) (p : Value) (buf : List UInt8) (x2 x3 x4 x5 : Value) (c : UInt8) (w : World) (h : EB w B r p buf x2 x3 x4 x5) :
    Calls Tryd.prog 97 #[.pointer (some ⟨r, 0, none⟩), .int .u8 (c.toNat : Int)] w fun e w' => e = .returned (.bool ((c.toNat : Int) == 13)) ∧ EB w' B r p buf (stp 98 r) x3 x4 x5 ∧ Below B w w' ∧ Lib.OthersKept 5 (some r) w w' := by
  have hc := (eb_cell2 h).1
  have hf := eb_frozen h 2
  have hE := eb_step h (stp 98 r)
  have hB := h.1
  have hrs := fun (w : World) (a : Addr) => run_store Tryd.prog w a (.func (.func 98) #[.pointer (some ⟨r, 0, none⟩)] #[]) .plain rfl
  go_enter Tryd.func97, Tryd.ntmps97
  go_wp2_with fail
  go_ret
  exact ⟨rfl, hE, (Below.refl B w).setCell (p := ⟨r, 2, none⟩) hB _, (Lib.OthersKept.refl _ _ w).setCell ⟨r, 2, none⟩ rfl _⟩
end Go.Proofs.YtfoflnolmlgnfaaDoor
