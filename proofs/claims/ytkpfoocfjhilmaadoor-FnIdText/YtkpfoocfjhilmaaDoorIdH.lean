/- IdGet, the program's and the model's: one pair. No condition but that a text is one. -/
import Derived.Test.YtkpfoocfjhilmaaDoorIdG
namespace Go.Proofs.YtkpfoocfjhilmaaDoor
open Go.RowKit
open num

def preL (s : ByteArray) (k : Nat) : List UInt8 := (s.extract 0 k).data.toList
def sufL (s : ByteArray) (k : Nat) : List UInt8 := (s.extract (k + 1) s.size).data.toList
def getB (s : ByteArray) (k : Nat) : Bool := idOkB (figs (preL s k)) (figs (sufL s k))
def getV (s : ByteArray) (k : Nat) : Value := .agg #[.int .i64 (onlyIf (getB s k) (figs (preL s k))), .int .i64 (onlyIf (getB s k) (figs (sufL s k)))]
theorem getV_no {s : ByteArray} {k : Nat} (h : getB s k = false) : getV s k = .agg #[.int .i64 0, .int .i64 0] := by unfold getV; rw [h]; rfl
theorem getV_ok {s : ByteArray} {k : Nat} (h : getB s k = true) : getV s k = .agg #[.int .i64 (figs (preL s k)), .int .i64 (figs (sufL s k))] := by unfold getV; rw [h]; rfl
theorem pre_size {s : ByteArray} {k : Nat} (hs : s.size ≤ maxLen) : (s.extract 0 k).size ≤ maxLen := by
  unfold maxLen at *; rw [ByteArray.size_extract]; omega
theorem suf_size {s : ByteArray} {k : Nat} (hs : s.size ≤ maxLen) : (s.extract (k + 1) s.size).size ≤ maxLen := by
  unfold maxLen at *; rw [ByteArray.size_extract]; omega
theorem fst_new (w : World) (A B : Obj) : ((w.alloc A).alloc B).heap[w.heap.size]? = some A := by
  rw [Below.heap_alloc _ _ _ (by simp), heap_alloc_new]
theorem ret_get {v u : Value} {b c : Bool} (h : v = u) (g : b = c) : Ending.returned (.tuple #[v, .bool b]) = .returned (.tuple #[u, .bool c]) := by rw [h, g]

theorem wrap_midI {a : Int} (h0 : -9223372036854775808 ≤ a) (h1 : a ≤ 9223372036854775807) : IntKind.i64.wrap a = a := by
  unfold IntKind.wrap; simp [IntKind.signed, IntKind.bits]; omega
theorem res_set {w : World} {B : Nat} {x0 x1 : Value} {t : TypeId} (h : w.heap[B]? = some (.cells #[x0, x1] t (0, 0))) (u0 u1 : Value) :
    ((w.setCell ⟨B, 0, none⟩ u0).setCell ⟨B, 1, none⟩ u1).heap[B]? = some (.cells #[u0, u1] t (0, 0)) := by
  rw [heap_setCell_same _ B 1 _ _ _ (heap_setCell_same _ B 0 _ _ _ h)]; rfl
theorem res_cells {w : World} {B : Nat} {x0 x1 : Value} {t : TypeId} (h : w.heap[B]? = some (.cells #[x0, x1] t (0, 0))) : w.cell? ⟨B, 0, none⟩ = some x0 ∧ w.cell? ⟨B, 1, none⟩ = some x1 :=
  ⟨by rw [cell_of_row _ _ _ _ _ _ h]; rfl, by rw [cell_of_row _ _ _ _ _ _ h]; rfl⟩
theorem res_frozen {w : World} {B : Nat} {cs : Array Value} {t : TypeId} (h : w.heap[B]? = some (.cells cs t (0, 0))) : ∀ o, w.frozen? ⟨B, o, none⟩ = false := fun o => by simp [World.frozen?, h]
theorem below_res {w w1 : World} {B : Nat} (hB : B = w.heap.size) (h : Below w.heap.size w w1) (u0 u1 : Value) : Below w.heap.size w ((w1.setCell ⟨B, 0, none⟩ u0).setCell ⟨B, 1, none⟩ u1) := by
  subst hB
  exact (h.setCell (p := ⟨w.heap.size, 0, none⟩) (Nat.le_refl _) u0).setCell (p := ⟨w.heap.size, 1, none⟩) (Nat.le_refl _) u1
theorem res_set_alloc {w : World} {B : Nat} {x0 x1 : Value} {t : TypeId} (h : w.heap[B]? = some (.cells #[x0, x1] t (0, 0))) (hlt : B < w.heap.size) (u0 u1 : Value) (A : Obj) :
    (((w.setCell ⟨B, 0, none⟩ u0).setCell ⟨B, 1, none⟩ u1).alloc A).heap[B]? = some (.cells #[u0, u1] t (0, 0)) :=
  (Below.heap_alloc _ _ _ (by simpa using hlt)).trans (res_set h u0 u1)
theorem below_res_alloc {w w1 : World} {B : Nat} (hB : B = w.heap.size) (h : Below w.heap.size w w1) (u0 u1 : Value) (A : Obj) : Below w.heap.size w (((w1.setCell ⟨B, 0, none⟩ u0).setCell ⟨B, 1, none⟩ u1).alloc A) :=
  (below_res hB h u0 u1).alloc (below_res hB h u0 u1).size A
set_option maxHeartbeats 4000000 in
theorem implIdGet_some (s : ByteArray) (k : Nat) (w : World) (hk : Lib.indexByte s.data.toList 45 = (k : Int)) (hlt : k < s.size) (hs : s.size ≤ maxLen) :
    Calls Tryd.prog 6 #[.string s] w fun e w' => e = .returned (.tuple #[getV s k, .bool (getB s k)]) ∧ Below w.heap.size w w' := by
  have HC : Hid (∀ w, Calls Tryd.prog 16 #[.string s, .string ⟨#[45]⟩] w fun e w' => e = .returned (.tuple #[.string (s.extract 0 k), .string (s.extract (k + 1) s.size), .bool true]) ∧ Below w.heap.size w w') := fun w => cut_some s ⟨#[45]⟩ k w rfl (fun _ => rfl) hk hlt hs
  have HP : Hid (∀ w, Calls Tryd.prog 17 #[.string (s.extract 0 k)] w fun e w' => e = .returned (.tuple #[.int .i64 (intV (preL s k)), .bool (intB (preL s k))]) ∧ w = w') := fun w => (implInt_any _ w (pre_size hs)).mono fun _ _ h => ⟨h.1, h.2.symm⟩
  have HS : Hid (∀ w, Calls Tryd.prog 17 #[.string (s.extract (k + 1) s.size)] w fun e w' => e = .returned (.tuple #[.int .i64 (intV (sufL s k)), .bool (intB (sufL s k))]) ∧ w = w') := fun w => (implInt_any _ w (suf_size hs)).mono fun _ _ h => ⟨h.1, h.2.symm⟩
  clear hk hlt hs
  go_enter Tryd.func6, Tryd.ntmps6
  go_wp2_with fail
  have hB1 : Below w.heap.size w (w.alloc (.cells #[.int .i64 0, .int .i64 0] 24)) := (Below.refl _ w).alloc (Nat.le_refl _) _
  have R1 : Hid ((w.alloc (.cells #[.int .i64 0, .int .i64 0] 24)).heap[w.heap.size]? = some (.cells #[.int .i64 0, .int .i64 0] 24 (0, 0))) := heap_alloc_new _ _
  have Rlt : w.heap.size < (w.alloc (.cells #[.int .i64 0, .int .i64 0] 24)).heap.size := by simp
  obtain ⟨w1, hW⟩ : ∃ W, w.alloc (.cells #[.int .i64 0, .int .i64 0] 24) = W := ⟨_, rfl⟩
  rw [hW] at hB1 R1 Rlt ⊢
  clear hW
  refine (HC.out _).mono ?_
  rintro e w2 ⟨rfl, hb⟩
  have R2 : Hid _ := (hb.block w.heap.size Rlt).trans R1.out
  have Rlt2 := Nat.lt_of_lt_of_le Rlt hb.size
  have hB2 := hB1.trans (hb.mono hB1.size)
  clear hb R1 Rlt hB1
  cases hl : intB (preL s k) with
  | false =>
    have hF := ok_l (m := sufL s k) hl
    have hB3 := hB2.trans (((Below.refl _ w2).alloc (Nat.le_refl _) (.cells #[.int .i64 (intV (preL s k)), .int .i64 (intV (sufL s k))] 24)).mono hB2.size)
    have R3 : Hid ((w2.alloc (.cells #[.int .i64 (intV (preL s k)), .int .i64 (intV (sufL s k))] 24)).heap[w.heap.size]? = some (.cells #[.int .i64 0, .int .i64 0] 24 (0, 0))) := (Below.heap_alloc _ _ _ Rlt2).trans R2.out
    have hz := res_frozen R2.out
    have hc := res_cells R2.out
    have hc0 := hc.1
    have hc1 := hc.2
    clear hc
    go_wp2_with (go_at_call_of 17 (Value.string (s.extract 0 k)); refine (HP.out _).mono ?_; rw [hl]; rintro e w' ⟨rfl, rfl⟩)
    refine (HS.out _).mono ?_
    rintro e w' ⟨rfl, rfl⟩
    go_wp2_with fail
    refine bodyPost_ret (results_cell_tmp rfl _ _ w.heap.size 24 _ (0, 0) _ rfl (res_set_alloc R2.out Rlt2 _ _ _) Tryd.underlying24 rfl (by kernel_rfl)) rfl ?_
    exact ⟨ret_get (getV_no hF).symm hF.symm, below_res_alloc rfl hB2 _ _ _⟩
  | true =>
    cases hm : intB (sufL s k) with
    | false =>
      have hF := ok_m (l := preL s k) hm
      have hB3 := hB2.trans (((Below.refl _ w2).alloc (Nat.le_refl _) (.cells #[.int .i64 (intV (preL s k)), .int .i64 (intV (sufL s k))] 24)).mono hB2.size)
      have R3 : Hid ((w2.alloc (.cells #[.int .i64 (intV (preL s k)), .int .i64 (intV (sufL s k))] 24)).heap[w.heap.size]? = some (.cells #[.int .i64 0, .int .i64 0] 24 (0, 0))) := (Below.heap_alloc _ _ _ Rlt2).trans R2.out
      have hz := res_frozen R2.out
      have hc := res_cells R2.out
      have hc0 := hc.1
      have hc1 := hc.2
      clear hc
      go_wp2_with (go_at_call_of 17 (Value.string (s.extract 0 k)); refine (HP.out _).mono ?_; rw [hl]; rintro e w' ⟨rfl, rfl⟩)
      refine (HS.out _).mono ?_
      rw [hm]
      rintro e w' ⟨rfl, rfl⟩
      go_wp2_with fail
      refine bodyPost_ret (results_cell_tmp rfl _ _ w.heap.size 24 _ (0, 0) _ rfl (res_set_alloc R2.out Rlt2 _ _ _) Tryd.underlying24 rfl (by kernel_rfl)) rfl ?_
      exact ⟨ret_get (getV_no hF).symm hF.symm, below_res_alloc rfl hB2 _ _ _⟩
    | true =>
      have hF : getB s k = idOkB (intV (preL s k)) (intV (sufL s k)) := ok_b hl hm
      have HF : Hid (getB s k = idOkB (intV (preL s k)) (intV (sufL s k))) := hF
      clear hF
      have HV : Hid (idOkB (intV (preL s k)) (intV (sufL s k)) = true → getV s k = .agg #[.int .i64 (intV (preL s k)), .int .i64 (intV (sufL s k))]) := fun h => by
        have h2 := h
        unfold idOkB at h2
        rw [Bool.and_eq_true] at h2
        have hp : inB (intV (preL s k)) 0 1000000000 = true := by have := h2.1; unfold inB at this ⊢; simp at this ⊢; omega
        rw [getV_ok (HF.out.trans h), val_b hl hp, val_b hm h2.2]
      go_wp2_with (go_at_call_of 17 (Value.string (s.extract 0 k)); refine (HP.out _).mono ?_; rw [hl]; rintro e w' ⟨rfl, rfl⟩)
      refine (HS.out _).mono ?_
      rw [hm]
      rintro e w' ⟨rfl, rfl⟩
      go_wp2_with fail
      have hB3 := hB2.trans (((Below.refl _ w2).alloc (Nat.le_refl _) (.cells #[.int .i64 (intV (preL s k)), .int .i64 (intV (sufL s k))] 24)).mono hB2.size)
      have R3 : Hid ((w2.alloc (.cells #[.int .i64 (intV (preL s k)), .int .i64 (intV (sufL s k))] 24)).heap[w.heap.size]? = some (.cells #[.int .i64 0, .int .i64 0] 24 (0, 0))) := (Below.heap_alloc _ _ _ Rlt2).trans R2.out
      have N3 : Hid ((w2.alloc (.cells #[.int .i64 (intV (preL s k)), .int .i64 (intV (sufL s k))] 24)).heap[w2.heap.size]? = some (.cells #[.int .i64 (intV (preL s k)), .int .i64 (intV (sufL s k))] 24 (0, 0))) := heap_alloc_new _ _
      have Nlt : w2.heap.size < (w2.alloc (.cells #[.int .i64 (intV (preL s k)), .int .i64 (intV (sufL s k))] 24)).heap.size := by simp
      obtain ⟨w3, hW⟩ : ∃ W, w2.alloc (.cells #[.int .i64 (intV (preL s k)), .int .i64 (intV (sufL s k))] 24) = W := ⟨_, rfl⟩
      rw [hW] at hB3 R3 N3 Nlt ⊢
      clear hW
      refine (idOk_any _ _ _).mono ?_
      rintro e w4 ⟨rfl, hb⟩
      have R4 : Hid _ := (hb.block w.heap.size (Nat.lt_of_lt_of_le Rlt2 (by omega))).trans R3.out
      have N4 : Hid _ := (hb.block w2.heap.size Nlt).trans N3.out
      have hB4 := hB3.trans (hb.mono hB3.size)
      have hz := res_frozen R4.out
      have hc := res_cells R4.out
      have hc0 := hc.1
      have hc1 := hc.2
      have hd := res_cells N4.out
      have hd0 := hd.1
      have hd1 := hd.2
      clear hc hd hb
      cases hx : idOkB (intV (preL s k)) (intV (sufL s k)) with
      | false =>
        go_wp2_with fail
        refine bodyPost_ret (results_cell_tmp rfl _ _ w.heap.size 24 _ (0, 0) _ rfl (res_set R4.out _ _) Tryd.underlying24 rfl (by kernel_rfl)) rfl ?_
        exact ⟨ret_get (getV_no (HF.out.trans hx)).symm (HF.out.trans hx).symm, below_res rfl hB4 _ _⟩
      | true =>
        go_wp2_with fail
        refine bodyPost_ret (results_cell_tmp rfl _ _ w.heap.size 24 _ (0, 0) _ rfl (res_set R4.out _ _) Tryd.underlying24 rfl (by kernel_rfl)) rfl ?_
        exact ⟨ret_get (HV.out hx).symm (HF.out.trans hx).symm, below_res rfl hB4 _ _⟩

def zeroV : Value := .agg #[.int .i64 0, .int .i64 0]
set_option maxHeartbeats 4000000 in
theorem implIdGet_none (s : ByteArray) (w : World) (hk : Lib.indexByte s.data.toList 45 = -1) (hs : s.size ≤ maxLen) :
    Calls Tryd.prog 6 #[.string s] w fun e w' => e = .returned (.tuple #[.agg #[.int .i64 0, .int .i64 0], .bool false]) ∧ Below w.heap.size w w' := by
  have HC : Hid (∀ w, Calls Tryd.prog 16 #[.string s, .string ⟨#[45]⟩] w fun e w' => e = .returned (.tuple #[.string s, .string ByteArray.empty, .bool false]) ∧ w = w') := fun w => cut_none s ⟨#[45]⟩ w rfl (fun _ => rfl) hk
  obtain ⟨n, b, HP⟩ : ∃ n b, Hid (∀ w, Calls Tryd.prog 17 #[.string s] w fun e w' => e = .returned (.tuple #[.int .i64 n, .bool b]) ∧ w = w') := ⟨_, _, fun w => (implInt_any _ w hs).mono fun _ _ h => ⟨h.1, h.2.symm⟩⟩
  have HS : Hid (∀ w, Calls Tryd.prog 17 #[.string ByteArray.empty] w fun e w' => e = .returned (.tuple #[.int .i64 0, .bool false]) ∧ w = w') := fun w => (implInt_any ByteArray.empty w (Nat.zero_le _)).mono fun _ _ h => ⟨h.1.trans (by rfl), h.2.symm⟩
  clear hk hs
  go_enter Tryd.func6, Tryd.ntmps6
  go_wp2_with fail
  have hB1 : Below w.heap.size w (w.alloc (.cells #[.int .i64 0, .int .i64 0] 24)) := (Below.refl _ w).alloc (Nat.le_refl _) _
  have R1 : Hid ((w.alloc (.cells #[.int .i64 0, .int .i64 0] 24)).heap[w.heap.size]? = some (.cells #[.int .i64 0, .int .i64 0] 24 (0, 0))) := heap_alloc_new _ _
  have Rlt : w.heap.size < (w.alloc (.cells #[.int .i64 0, .int .i64 0] 24)).heap.size := by simp
  obtain ⟨w2, hW⟩ : ∃ W, w.alloc (.cells #[.int .i64 0, .int .i64 0] 24) = W := ⟨_, rfl⟩
  rw [hW] at hB1 R1 Rlt ⊢
  clear hW
  refine (HC.out _).mono ?_
  rintro e w' ⟨rfl, rfl⟩
  have hz := res_frozen R1.out
  have hc := res_cells R1.out
  have hc0 := hc.1
  have hc1 := hc.2
  clear hc
  go_wp2_with fail
  refine (HP.out _).mono ?_
  rintro e w' ⟨rfl, rfl⟩
  go_wp2_with fail
  refine (HS.out _).mono ?_
  rintro e w' ⟨rfl, rfl⟩
  cases b with
  | false =>
    go_wp2_with fail
    refine bodyPost_ret (results_cell_tmp rfl _ _ w.heap.size 24 _ (0, 0) _ rfl (res_set_alloc R1.out Rlt _ _ _) Tryd.underlying24 rfl (by kernel_rfl)) rfl ?_
    exact ⟨rfl, below_res_alloc rfl hB1 _ _ _⟩
  | true =>
    go_wp2_with fail
    refine bodyPost_ret (results_cell_tmp rfl _ _ w.heap.size 24 _ (0, 0) _ rfl (res_set_alloc R1.out Rlt _ _ _) Tryd.underlying24 rfl (by kernel_rfl)) rfl ?_
    exact ⟨rfl, below_res_alloc rfl hB1 _ _ _⟩

/-! ### the model -/
set_option maxHeartbeats 4000000 in
theorem specIdGet_none (s : ByteArray) (w : World) (hn : ∀ i (hi : i < s.size), (((s[i].toNat : Nat) : Int) == 45) = false) (hs : s.size ≤ maxLen) :
    Calls Tryd.prog 11 #[.string s] w fun e w' => e = .returned (.tuple #[.agg #[.int .i64 0, .int .i64 0], .bool false]) ∧ Below w.heap.size w w' := by
  have HN : Hid (∀ i (hi : i < s.size), (((s[i].toNat : Nat) : Int) == 45) = false) := hn
  clear hn
  unfold maxLen at hs
  go_enter Tryd.func11, Tryd.ntmps11
  go_wp2_with fail
  have hB1 : Below w.heap.size w (w.alloc (.cells #[.int .i64 0, .int .i64 0] 24)) := (Below.refl _ w).alloc (Nat.le_refl _) _
  have R1 : Hid ((w.alloc (.cells #[.int .i64 0, .int .i64 0] 24)).heap[w.heap.size]? = some (.cells #[.int .i64 0, .int .i64 0] 24 (0, 0))) := heap_alloc_new _ _
  have Rlt : w.heap.size < (w.alloc (.cells #[.int .i64 0, .int .i64 0] 24)).heap.size := by simp
  obtain ⟨w2, hW⟩ : ∃ W, w.alloc (.cells #[.int .i64 0, .int .i64 0] 24) = W := ⟨_, rfl⟩
  rw [hW] at hB1 R1 Rlt ⊢
  clear hW
  go_loop [4] (fun i => ∃ k : Nat, k ≤ s.size ∧ i = .int .i64 k) (fun i => s.size - (intOf i).toNat)
  case atStart => exact ⟨0, Nat.zero_le _, rfl⟩
  case round =>
    obtain ⟨k, hk, rfl⟩ := hrel
    by_cases hlt : k < s.size
    · have h45 := HN.out k hlt
      go_wp2_with fail
      go_round
      case rel => exact ⟨k + 1, by omega, by go_num⟩
      case measure => simp [intOf]; omega
    · obtain rfl : k = s.size := by omega
      have hz := res_frozen R1.out
      have hc := res_cells R1.out
      have hc0 := hc.1
      have hc1 := hc.2
      clear hc
      go_wp2_with fail
      refine bodyPost_ret (results_cell_tmp rfl _ _ w.heap.size 24 _ (0, 0) _ rfl (res_set R1.out _ _) Tryd.underlying24 rfl (by kernel_rfl)) rfl ?_
      exact ⟨rfl, below_res rfl hB1 _ _⟩
set_option maxHeartbeats 4000000 in
theorem specIdGet_some (s : ByteArray) (k : Nat) (w : World) (hn : ∀ i (hi : i < s.size), i < k → (((s[i].toNat : Nat) : Int) == 45) = false) (hlt : k < s.size) (hy : (((s[k].toNat : Nat) : Int) == 45) = true) (hs : s.size ≤ maxLen) :
    Calls Tryd.prog 11 #[.string s] w fun e w' => e = .returned (.tuple #[getV s k, .bool (getB s k)]) ∧ Below w.heap.size w w' := by
  have HN : Hid (∀ i (hi : i < s.size), i < k → (((s[i].toNat : Nat) : Int) == 45) = false) := hn
  have HP : Hid (∀ w, Calls Tryd.prog 22 #[.string (s.extract 0 k)] w fun e w' => e = .returned (.int .i64 (figs (preL s k))) ∧ w = w') := fun w => (figs_any _ w (pre_size hs)).mono fun _ _ h => ⟨h.1, h.2.symm⟩
  have HS : Hid (∀ w, Calls Tryd.prog 22 #[.string (s.extract (k + 1) s.size)] w fun e w' => e = .returned (.int .i64 (figs (sufL s k))) ∧ w = w') := fun w => (figs_any _ w (suf_size hs)).mono fun _ _ h => ⟨h.1, h.2.symm⟩
  clear hn
  unfold maxLen at hs
  go_enter Tryd.func11, Tryd.ntmps11
  go_wp2_with fail
  have hB1 : Below w.heap.size w (w.alloc (.cells #[.int .i64 0, .int .i64 0] 24)) := (Below.refl _ w).alloc (Nat.le_refl _) _
  have R1 : Hid ((w.alloc (.cells #[.int .i64 0, .int .i64 0] 24)).heap[w.heap.size]? = some (.cells #[.int .i64 0, .int .i64 0] 24 (0, 0))) := heap_alloc_new _ _
  have Rlt : w.heap.size < (w.alloc (.cells #[.int .i64 0, .int .i64 0] 24)).heap.size := by simp
  obtain ⟨w2, hW⟩ : ∃ W, w.alloc (.cells #[.int .i64 0, .int .i64 0] 24) = W := ⟨_, rfl⟩
  rw [hW] at hB1 R1 Rlt ⊢
  clear hW
  go_loop [4] (fun i => ∃ j : Nat, j ≤ k ∧ i = .int .i64 j) (fun i => s.size - (intOf i).toNat)
  case atStart => exact ⟨0, Nat.zero_le _, rfl⟩
  case round =>
    obtain ⟨j, hj, rfl⟩ := hrel
    by_cases hjk : j < k
    · have hjs : j < s.size := by omega
      have h45 := HN.out j hjs hjk
      go_wp2_with fail
      go_round
      case rel => exact ⟨j + 1, by omega, by go_num⟩
      case measure => simp [intOf]; omega
    · obtain rfl : j = k := by omega
      go_wp2_with fail
      clear HN hy
      obtain ⟨k2, hk2⟩ : ∃ k2 : Nat, j + 1 = k2 := ⟨_, rfl⟩
      have HS2 : Hid (∀ w, Calls Tryd.prog 22 #[.string (s.extract k2 s.size)] w fun e w' => e = .returned (.int .i64 (figs (sufL s j))) ∧ w = w') := by rw [← hk2]; exact HS.out
      have g1 : (0 : Int) ≤ (j : Int) := by omega
      have g2 : (j : Int) ≤ (s.size : Int) := by omega
      have g3 : IntKind.i64.wrap ((j : Int) + 1) = (k2 : Int) := by rw [show (j : Int) + 1 = (k2 : Int) by omega]; exact wrap_midI (by omega) (by omega)
      have g4 : (0 : Int) ≤ (k2 : Int) := by omega
      have g5 : (k2 : Int) ≤ (s.size : Int) := by omega
      clear hk2 HS
      go_region_held3 (fun w' => Below w2.heap.size w2 w') (first | exact (Below.refl _ _).drew | exact ((Below.refl _ _).alloc (Nat.le_refl _) _).drew | assumption | go_keep) (first
        | (go_at_call_of 22 (Value.string (s.extract 0 j)); refine (HP.out _).mono ?_; rintro e w' ⟨rfl, rfl⟩)
        | (go_at_call_of 22 (Value.string (s.extract k2 s.size)); refine (HS2.out _).mono ?_; rintro e w' ⟨rfl, rfl⟩))
      all_goals
        have R3 : Hid ((w2.alloc (.cells #[.int .i64 (figs (preL s j)), .int .i64 (figs (sufL s j))] 24)).drew.heap[w.heap.size]? = some (.cells #[.int .i64 0, .int .i64 0] 24 (0, 0))) := (Below.heap_alloc w2 _ _ Rlt).trans R1.out
        have N3 : Hid ((w2.alloc (.cells #[.int .i64 (figs (preL s j)), .int .i64 (figs (sufL s j))] 24)).drew.heap[w2.heap.size]? = some (.cells #[.int .i64 (figs (preL s j)), .int .i64 (figs (sufL s j))] 24 (0, 0))) := heap_alloc_new w2 _
        have Nlt : w2.heap.size < (w2.alloc (.cells #[.int .i64 (figs (preL s j)), .int .i64 (figs (sufL s j))] 24)).drew.heap.size := by show _ < (w2.alloc _).heap.size; simp
        have hB3 : Below w.heap.size w (w2.alloc (.cells #[.int .i64 (figs (preL s j)), .int .i64 (figs (sufL s j))] 24)).drew := hB1.trans (((Below.refl _ w2).alloc (Nat.le_refl _) _).drew.mono hB1.size)
        obtain ⟨w3, hW⟩ : ∃ W, (w2.alloc (.cells #[.int .i64 (figs (preL s j)), .int .i64 (figs (sufL s j))] 24)).drew = W := ⟨_, rfl⟩
        rw [hW] at R3 N3 Nlt hB3
        have hd := res_cells N3.out
        have hd0 := hd.1
        have hd1 := hd.2
        clear hd
        rw [hW]
        clear hW
        go_wp2_with fail
        refine (l9Id_any _ _ _).mono ?_
        rintro e w4 ⟨rfl, hb⟩
        have R4 : Hid _ := (hb.block w.heap.size (by omega)).trans R3.out
        have N4 : Hid _ := (hb.block w2.heap.size Nlt).trans N3.out
        have hB4 := hB3.trans (hb.mono hB3.size)
        clear hb hd0 hd1
        have hz := res_frozen R4.out
        have hc := res_cells R4.out
        have hc0 := hc.1
        have hc1 := hc.2
        have hd := res_cells N4.out
        have hd0 := hd.1
        have hd1 := hd.2
        clear hc hd
        cases hx : idOkB (figs (preL s j)) (figs (sufL s j)) with
        | false =>
          have HX : Hid (getB s j = false) := hx
          go_wp2_with fail
          refine bodyPost_ret (results_cell_tmp rfl _ _ w.heap.size 24 _ (0, 0) _ rfl (res_set R4.out _ _) Tryd.underlying24 rfl (by kernel_rfl)) rfl ?_
          exact ⟨ret_get (getV_no HX.out).symm HX.out.symm, below_res rfl hB4 _ _⟩
        | true =>
          have HX : Hid (getB s j = true) := hx
          go_wp2_with fail
          refine bodyPost_ret (results_cell_tmp rfl _ _ w.heap.size 24 _ (0, 0) _ rfl (res_set R4.out _ _) Tryd.underlying24 rfl (by kernel_rfl)) rfl ?_
          exact ⟨ret_get (getV_ok HX.out).symm HX.out.symm, below_res rfl hB4 _ _⟩
end Go.Proofs.YtkpfoocfjhilmaaDoor
