/- The reader of orders: steps that take figures. -/
import Derived.Test.YtfoflnolmlgnfaaDoorStepA
import Derived.Test.YtfoflnolmlgnfaaDoorIntB
import Derived.Test.YtfoflnolmlgnfaaDoorTk
namespace Go.Proofs.YtfoflnolmlgnfaaDoor
open Go.RowKit

def figB (l : List UInt8) (lo hi : Int) : Bool := intB l && decide (lo ≤ intV l) && decide (intV l ≤ hi)
theorem ofL_size2 (l : List UInt8) : (ByteArray.mk l.toArray).size = l.length := by show l.toArray.size = _; simp
theorem eb_many {w : World} {B r : Nat} {p : Value} {buf : List UInt8} {x2 x3 x4 x5 : Value} (h : EB w B r p buf x2 x3 x4 x5) (y : Value) : EB (w.setCell ⟨r, 4, none⟩ y) B r p buf x2 x3 y x5 := eb_keep h y (fun _ => rfl)
theorem eb_size {w : World} {B r : Nat} {p : Value} {buf : List UInt8} {x2 x3 x4 x5 : Value} (h : EB w B r p buf x2 x3 x4 x5) (y : Value) : EB (w.setCell ⟨r, 5, none⟩ y) B r p buf x2 x3 x4 y := eb_keep h y (fun _ => rfl)
theorem ints_of (l : List UInt8) (w : World) (hl : l.length ≤ 100000) :
    Calls Tryd.prog 74 #[.string ⟨l.toArray⟩] w fun e w' => e = .returned (.tuple #[.int .i64 (intV l), .bool (intB l)]) ∧ w' = w :=
  implInt_any ⟨l.toArray⟩ w (by rw [ofL_size2]; unfold maxLen; omega)
theorem figB_eq {l : List UInt8} {lo hi : Int} : figB l lo hi = (intB l && decide (lo ≤ intV l) && decide (intV l ≤ hi)) := rfl
set_option maxHeartbeats 2000000 in
theorem takeFigure_any (B r : Nat) (p : Value) (buf : List UInt8) (x2 x3 x4 x5 : Value) (c : UInt8) (lo hi : Int) (w : World) (hp : selfP r p) (h : EB w B r p buf x2 x3 x4 x5) (hl : buf.length ≤ 1000) (hBw : B ≤ w.heap.size) :
    Calls Tryd.prog 68 #[.pointer (some ⟨r, 0, none⟩), .int .u8 (c.toNat : Int), .int .i64 lo, .int .i64 hi] w fun e w' => e = .returned (.bool (figB (buf ++ [c]) lo hi)) ∧ EB w' B r (.pointer (some ⟨r, 0, none⟩)) (buf ++ [c]) x2 x3 x4 x5 ∧ Below B w w' ∧ Lib.OthersKept 5 (some r) w w' := by
  obtain ⟨L, hL⟩ : ∃ L, buf ++ [c] = L := ⟨_, rfl⟩
  have hll : L.length ≤ 100000 := by rw [← hL]; simp; omega
  rw [hL]
  have HFH : Hid (figB L lo hi = (intB L && decide (lo ≤ intV L) && decide (intV L ≤ hi))) := figB_eq
  have HI := ints_of L
  go_enter Tryd.func68, Tryd.ntmps68
  go_wp2_with fail
  refine (writeE_any B r p buf c x2 x3 x4 x5 _ hp h (by omega) hBw).mono ?_
  rintro e w1 ⟨rfl, hE1, hB1, hO1⟩
  rw [hL] at hE1
  clear h hL
  go_wp2_with fail
  refine (stringE_any B r _ L x2 x3 x4 x5 _ hE1).mono ?_
  rintro e w2 ⟨rfl, hE2, hB2, hO2⟩
  have hB3 := hB1.trans hB2
  have hO3 := hO1.trans hO2
  clear hE1 hB1 hB2 hO1 hO2
  go_wp2_with fail
  refine (HI _ hll).mono ?_
  rintro e w3 ⟨rfl, rfl⟩
  clear HI
  generalize intV L = V at *
  cases hb : intB L with
  | false =>
    rw [hb] at HFH
    go_wp2_with fail
    go_ret
    exact ⟨by rw [HFH.out]; rfl, hE2, hB3, hO3⟩
  | true =>
    rw [hb] at HFH
    by_cases h1 : lo ≤ V
    · go_wp2_with fail
      go_ret
      exact ⟨by rw [HFH.out]; simp [h1], hE2, hB3, hO3⟩
    · go_wp2_with fail
      go_ret
      exact ⟨by rw [HFH.out]; simp; omega, hE2, hB3, hO3⟩
set_option maxHeartbeats 2000000 in
theorem takeNumber_any (B r : Nat) (p : Value) (buf : List UInt8) (x2 x3 x4 x5 : Value) (w : World) (h : EB w B r p buf x2 x3 x4 x5) (hl : buf.length ≤ 1000) :
    Calls Tryd.prog 69 #[.pointer (some ⟨r, 0, none⟩)] w fun e w' => e = .returned (.tuple #[.int .i64 (intV buf), .bool (intB buf)]) ∧ EB w' B r (.pointer none) [] x2 x3 x4 x5 ∧ Below B w w' ∧ Lib.OthersKept 5 (some r) w w' := by
  have HI := ints_of buf
  go_enter Tryd.func69, Tryd.ntmps69
  go_wp2_with fail
  refine (stringE_any B r _ buf x2 x3 x4 x5 _ h).mono ?_
  rintro e w1 ⟨rfl, hE1, hB1, hO1⟩
  go_wp2_with fail
  refine (resetE_any B r _ buf x2 x3 x4 x5 _ hE1).mono ?_
  rintro e w2 ⟨rfl, hE2, hB2, hO2⟩
  go_wp2_with fail
  refine (HI _ (by omega)).mono ?_
  rintro e w3 ⟨rfl, rfl⟩
  go_wp2_with fail
  go_ret2
  exact ⟨rfl, hE2, hB1.trans hB2, hO1.trans hO2⟩
theorem c4 {a b c d : Prop} (h : a ∧ b ∧ c ∧ d) : c := h.2.2.1
theorem c5 {a b c d : Prop} (h : a ∧ b ∧ c ∧ d) : d := h.2.2.2
set_option maxHeartbeats 2000000 in
theorem many_fig (B r : Nat) (p : Value) (buf : List UInt8) (x2 x3 x4 x5 : Value) (c : UInt8) (w : World) (hp : selfP r p) (h : EB w B r p buf x2 x3 x4 x5) (hl : buf.length ≤ 1000) (hBw : B ≤ w.heap.size) (hc : ((c.toNat : Int) != 13) = true) :
    Calls Tryd.prog 61 #[.pointer (some ⟨r, 0, none⟩), .int .u8 (c.toNat : Int)] w fun e w' => e = .returned (.bool (figB (buf ++ [c]) 1 8)) ∧ EB w' B r (.pointer (some ⟨r, 0, none⟩)) (buf ++ [c]) x2 x3 x4 x5 ∧ Below B w w' ∧ Lib.OthersKept 5 (some r) w w' := by
  go_enter Tryd.func61, Tryd.ntmps61
  go_wp2_with fail
  refine (takeFigure_any B r p buf x2 x3 x4 x5 c 1 8 _ hp h hl hBw).mono ?_
  rintro e w1 ⟨rfl, hE1, hB1, hO1⟩
  go_wp2_with fail
  go_ret
  exact ⟨rfl, hE1, hB1, hO1⟩
set_option maxHeartbeats 2000000 in
theorem many_end (B r : Nat) (p : Value) (buf : List UInt8) (x2 x3 x4 x5 : Value) (w : World) (h : EB w B r p buf x2 x3 x4 x5) (hl : buf.length ≤ 1000) :
    Calls Tryd.prog 61 #[.pointer (some ⟨r, 0, none⟩), .int .u8 13] w fun e w' => e = .returned (.bool (intB buf)) ∧ EB w' B r (.pointer none) [] (stp 70 r) x3 (.int .i64 (intV buf)) x5 ∧ Below B w w' ∧ Lib.OthersKept 5 (some r) w w' := by
  have hB := h.1
  have hrs := fun (w : World) (a : Addr) => run_store Tryd.prog w a (.func (.func 70) #[.pointer (some ⟨r, 0, none⟩)] #[]) .plain rfl
  go_enter Tryd.func61, Tryd.ntmps61
  go_wp2_with fail
  refine (takeNumber_any B r p buf x2 x3 x4 x5 _ h hl).mono ?_
  rintro e w1 ⟨rfl, hE1, hB1, hO1⟩
  have hE2 := eb_many hE1 (.int .i64 (intV buf))
  have hE3 := eb_step hE2 (stp 70 r)
  have hf4 := eb_frozen hE1 4
  have hc4 := c4 (eb_cell2 hE1)
  have hf2 := eb_frozen hE2 2
  have hc2 := (eb_cell2 hE2).1
  go_wp2_with fail
  go_ret
  exact ⟨rfl, hE3, (hB1.setCell (p := ⟨r, 4, none⟩) hB _).setCell (p := ⟨r, 2, none⟩) hB _, (hO1.setCell ⟨r, 4, none⟩ rfl _).setCell ⟨r, 2, none⟩ rfl _⟩
set_option maxHeartbeats 2000000 in
theorem size_fig (B r : Nat) (p : Value) (buf : List UInt8) (x2 x3 x4 x5 : Value) (c : UInt8) (w : World) (hp : selfP r p) (h : EB w B r p buf x2 x3 x4 x5) (hl : buf.length ≤ 1000) (hBw : B ≤ w.heap.size) (hc : ((c.toNat : Int) != 13) = true) :
    Calls Tryd.prog 80 #[.pointer (some ⟨r, 0, none⟩), .int .u8 (c.toNat : Int)] w fun e w' => e = .returned (.bool (figB (buf ++ [c]) 0 40)) ∧ EB w' B r (.pointer (some ⟨r, 0, none⟩)) (buf ++ [c]) x2 x3 x4 x5 ∧ Below B w w' ∧ Lib.OthersKept 5 (some r) w w' := by
  go_enter Tryd.func80, Tryd.ntmps80
  go_wp2_with fail
  refine (takeFigure_any B r p buf x2 x3 x4 x5 c 0 40 _ hp h hl hBw).mono ?_
  rintro e w1 ⟨rfl, hE1, hB1, hO1⟩
  go_wp2_with fail
  go_ret
  exact ⟨rfl, hE1, hB1, hO1⟩
set_option maxHeartbeats 2000000 in
theorem size_end (B r : Nat) (p : Value) (buf : List UInt8) (x2 x3 x4 x5 : Value) (w : World) (h : EB w B r p buf x2 x3 x4 x5) (hl : buf.length ≤ 1000) :
    Calls Tryd.prog 80 #[.pointer (some ⟨r, 0, none⟩), .int .u8 13] w fun e w' => e = .returned (.bool (intB buf)) ∧ EB w' B r (.pointer none) [] (stp 86 r) x3 x4 (.int .i64 (intV buf)) ∧ Below B w w' ∧ Lib.OthersKept 5 (some r) w w' := by
  have hB := h.1
  have hrs := fun (w : World) (a : Addr) => run_store Tryd.prog w a (.func (.func 86) #[.pointer (some ⟨r, 0, none⟩)] #[]) .plain rfl
  go_enter Tryd.func80, Tryd.ntmps80
  go_wp2_with fail
  refine (takeNumber_any B r p buf x2 x3 x4 x5 _ h hl).mono ?_
  rintro e w1 ⟨rfl, hE1, hB1, hO1⟩
  have hE2 := eb_size hE1 (.int .i64 (intV buf))
  have hE3 := eb_step hE2 (stp 86 r)
  have hf4 := eb_frozen hE1 5
  have hc4 := c5 (eb_cell2 hE1)
  have hf2 := eb_frozen hE2 2
  have hc2 := (eb_cell2 hE2).1
  go_wp2_with fail
  go_ret
  exact ⟨rfl, hE3, (hB1.setCell (p := ⟨r, 5, none⟩) hB _).setCell (p := ⟨r, 2, none⟩) hB _, (hO1.setCell ⟨r, 5, none⟩ rfl _).setCell ⟨r, 2, none⟩ rfl _⟩
end Go.Proofs.YtfoflnolmlgnfaaDoor
