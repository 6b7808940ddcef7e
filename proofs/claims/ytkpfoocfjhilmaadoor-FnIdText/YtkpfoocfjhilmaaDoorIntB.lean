/- The model's IntGet and the program's come to one pair: no condition but that a text is one. -/
import Derived.Test.YtkpfoocfjhilmaaDoorIntA
namespace Go.Proofs.YtkpfoocfjhilmaaDoor
open Go.RowKit
open num

def signed (l : List UInt8) : Bool := l.head? == some 45
def intB (l : List UInt8) : Bool := if signed l = true then fits l.tail && decide (val l.tail ≠ 0) else fits l
def intV (l : List UInt8) : Int := if signed l = true then (if intB l = true then -(val l.tail : Int) else 0) else got l

theorem fits_in (l : List UInt8) : fits l = inB (figs l) 0 1000000000 := by
  rw [figs_fits]; unfold inB; rw [Bool.decide_and]
theorem got_in (l : List UInt8) : got l = if fits l = true then figs l else 0 := by
  unfold got; split
  · rename_i h; rw [figs_of_fits l h]
  · rfl
theorem fits_nil : fits [] = false := by decide
theorem fits_sign : fits [45] = false := by decide
theorem alone (l : List UInt8) (h : signed l = true) (h1 : l.length ≤ 1) : l = [45] := by
  match l, h1 with
  | [], _ => simp [signed] at h
  | [c], _ => simp [signed] at h; rw [h]
theorem plain_B {l : List UInt8} (h : signed l = false ∨ l.length ≤ 1) : intB l = inB (figs l) 0 1000000000 := by
  unfold intB
  rw [← fits_in]
  split
  · rename_i hs
    rcases h with h | h
    · rw [h] at hs; cases hs
    · rw [alone l hs h]; decide
  · rfl
theorem plain_V {l : List UInt8} (h : signed l = false ∨ l.length ≤ 1) : intV l = if intB l = true then figs l else 0 := by
  by_cases hs : signed l = true
  · rcases h with h | h
    · rw [h] at hs; cases hs
    · rw [alone l hs h]; decide
  · have e : intB l = fits l := by unfold intB; rw [if_neg hs]
    unfold intV
    rw [if_neg hs, got_in, e]
theorem signed_B {l : List UInt8} (h : signed l = true) : intB l = inB (figs l.tail) 1 1000000000 := by
  unfold intB
  rw [if_pos h]
  cases hf : fits l.tail with
  | true =>
    have h1 := figs_of_fits _ hf
    have h2 := val_le_of_fits _ hf
    rw [h1]; unfold inB
    rw [Bool.eq_iff_iff]; simp; omega
  | false =>
    rw [fits_in] at hf
    simp only [inB, Bool.and_eq_false_iff, decide_eq_false_iff_not] at hf
    unfold inB
    rw [Bool.false_and, eq_comm, Bool.and_eq_false_iff]; simp only [decide_eq_false_iff_not]; omega
theorem signed_V {l : List UInt8} (h : signed l = true) : intV l = if intB l = true then -(figs l.tail) else 0 := by
  unfold intV
  rw [if_pos h]
  split
  · rename_i hb
    have hf : fits l.tail = true := by
      unfold intB at hb; rw [if_pos h] at hb; rw [Bool.and_eq_true] at hb; exact hb.1
    rw [figs_of_fits _ hf]
  · rfl
theorem tail_take (s : ByteArray) : List.take (s.size - 1) s.data.toList.tail = s.data.toList.tail := by
  apply List.take_of_length_le; simp
theorem signed_of {s : ByteArray} (h0 : 0 < s.size) : signed s.data.toList = ((s[0].toNat : Int) == 45) := by
  have e1 : s.data.toList.head? = some s[0] := by
    rw [List.head?_eq_getElem?, List.getElem?_eq_getElem (by simpa using h0)]; rfl
  unfold signed
  rw [e1, Bool.eq_iff_iff, beq_iff_eq, beq_iff_eq, Option.some.injEq, ← UInt8.toNat_inj]
  have : (45 : UInt8).toNat = 45 := rfl
  omega
theorem signed_cut {s : ByteArray} (h0 : 1 ≤ (s.size : Int)) : signed s.data.toList = ((s.extract 0 1).toList == [45]) := by
  rw [Lib.extract_toList]
  unfold signed
  match h : s.data.toList with
  | [] => have : s.data.toList.length = s.size := by simp
          rw [h] at this; simp at this; omega
  | c :: t => simp
theorem signed_none {s : ByteArray} (h0 : (s.size : Int) < 1) : signed s.data.toList = false := by
  have : s.data.toList.length = s.size := by simp
  have h : s.data.toList = [] := List.length_eq_zero_iff.1 (by omega)
  rw [h]; rfl
theorem ret_i {l : List UInt8} {a : Int} {b : Bool} (h : intV l = a) (h2 : intB l = b) :
    Ending.returned (.tuple #[.int .i64 a, .bool b]) = .returned (.tuple #[.int .i64 (intV l), .bool (intB l)]) := by rw [h, h2]
theorem neg_wrap {a : Int} (h0 : -10000000000 ≤ a) (h1 : a ≤ 10000000000) : wrap64 (-a) = -a := by
  unfold wrap64; omega

/-! ### the ways of the model's text -/
theorem m1 {s : ByteArray} (h2 : 0 < s.size) (h3 : ((s[0].toNat : Int) == 45) = true) (h4 : (!inB (figs (List.take (s.size - 1) s.data.toList.tail)) 1 1000000000) = true) :
    Ending.returned (.tuple #[.int .i64 0, .bool false]) = .returned (.tuple #[.int .i64 (intV s.data.toList), .bool (intB s.data.toList)]) := by
  rw [tail_take] at h4
  have hs : signed s.data.toList = true := by rw [signed_of h2]; exact h3
  have hb : intB s.data.toList = false := by rw [signed_B hs]; simpa using h4
  exact ret_i (by rw [signed_V hs, hb]; rfl) hb
theorem m2 {s : ByteArray} (h2 : 0 < s.size) (h3 : ((s[0].toNat : Int) == 45) = true) (h4 : (!inB (figs (List.take (s.size - 1) s.data.toList.tail)) 1 1000000000) = false) :
    Ending.returned (.tuple #[.int .i64 (wrap64 (-figs (List.take (s.size - 1) s.data.toList.tail))), .bool true]) = .returned (.tuple #[.int .i64 (intV s.data.toList), .bool (intB s.data.toList)]) := by
  rw [tail_take] at h4 ⊢
  have hs : signed s.data.toList = true := by rw [signed_of h2]; exact h3
  have hb : intB s.data.toList = true := by rw [signed_B hs]; simpa using h4
  have hl := figs_le s.data.toList.tail
  exact ret_i (by rw [signed_V hs, hb, neg_wrap (by omega) (by omega)]; rfl) hb
theorem m3 {s : ByteArray} (h : signed s.data.toList = false ∨ s.data.toList.length ≤ 1) (h4 : (!inB (figs s.data.toList) 0 1000000000) = true) :
    Ending.returned (.tuple #[.int .i64 0, .bool false]) = .returned (.tuple #[.int .i64 (intV s.data.toList), .bool (intB s.data.toList)]) := by
  have hb : intB s.data.toList = false := by rw [plain_B h]; simpa using h4
  exact ret_i (by rw [plain_V h, hb]; rfl) hb
theorem m4 {s : ByteArray} (h : signed s.data.toList = false ∨ s.data.toList.length ≤ 1) (h4 : (!inB (figs s.data.toList) 0 1000000000) = false) :
    Ending.returned (.tuple #[.int .i64 (figs s.data.toList), .bool true]) = .returned (.tuple #[.int .i64 (intV s.data.toList), .bool (intB s.data.toList)]) := by
  have hb : intB s.data.toList = true := by rw [plain_B h]; simpa using h4
  exact ret_i (by rw [plain_V h, hb]; rfl) hb
theorem n1 {s : ByteArray} (h2 : 0 < s.size) (h3 : ((s[0].toNat : Int) == 45) = false) : signed s.data.toList = false ∨ s.data.toList.length ≤ 1 := by
  left; rw [signed_of h2]; exact h3
theorem n2 {s : ByteArray} (h : (s.size : Int) ≤ 1) : signed s.data.toList = false ∨ s.data.toList.length ≤ 1 := by
  right; have : s.data.toList.length = s.size := by simp
  omega

theorem p1 {l : List UInt8} (hs : signed l = false) (h : fits l = true) :
    Ending.returned (.tuple #[.int .i64 (got l), .bool true]) = .returned (.tuple #[.int .i64 (intV l), .bool (intB l)]) :=
  ret_i (by unfold intV; rw [hs]; rfl) (by unfold intB; rw [hs]; exact h)
theorem p2 {l : List UInt8} (hs : signed l = false) (h : ¬ fits l = true) :
    Ending.returned (.tuple #[.int .i64 0, .bool false]) = .returned (.tuple #[.int .i64 (intV l), .bool (intB l)]) :=
  ret_i (by unfold intV got; rw [hs, if_neg h]; rfl) (by unfold intB; rw [hs]; simpa using h)
theorem q1 {s : ByteArray} (h0 : 1 ≤ (s.size : Int)) (h : (!(s.extract 0 1).toList == [45]) = true) : signed s.data.toList = false := by
  rw [signed_cut h0]; simpa using h
theorem q2 {s : ByteArray} (h0 : 1 ≤ (s.size : Int)) (h : (!(s.extract 0 1).toList == [45]) = false) : signed s.data.toList = true := by
  rw [signed_cut h0]; simpa using h
theorem p3 {s : ByteArray} (hs : signed s.data.toList = true) (hf : fits (List.take (s.size - 1) s.data.toList.tail) = true) (h : (got (List.take (s.size - 1) s.data.toList.tail) == 0) = true) :
    Ending.returned (.tuple #[.int .i64 0, .bool false]) = .returned (.tuple #[.int .i64 (intV s.data.toList), .bool (intB s.data.toList)]) := by
  rw [tail_take] at hf h
  unfold got at h
  rw [if_pos hf] at h
  have hb : intB s.data.toList = false := by unfold intB; rw [if_pos hs, hf]; simp at h ⊢; exact h
  exact ret_i (by unfold intV; rw [if_pos hs, hb]; rfl) hb
theorem p4 {s : ByteArray} (hs : signed s.data.toList = true) (hf : fits (List.take (s.size - 1) s.data.toList.tail) = true) (h : (got (List.take (s.size - 1) s.data.toList.tail) == 0) = false) :
    Ending.returned (.tuple #[.int .i64 (wrap64 (-got (List.take (s.size - 1) s.data.toList.tail))), .bool true]) = .returned (.tuple #[.int .i64 (intV s.data.toList), .bool (intB s.data.toList)]) := by
  rw [tail_take] at hf h ⊢
  unfold got at h ⊢
  rw [if_pos hf] at h ⊢
  have hv := val_le_of_fits _ hf
  have hb : intB s.data.toList = true := by unfold intB; rw [if_pos hs, hf]; simp at h ⊢; exact h
  exact ret_i (by unfold intV; rw [if_pos hs, hb, neg_wrap (by omega) (by omega)]; rfl) hb
theorem p5 {s : ByteArray} (hs : signed s.data.toList = true) (hf : ¬ fits (List.take (s.size - 1) s.data.toList.tail) = true) :
    Ending.returned (.tuple #[.int .i64 0, .bool false]) = .returned (.tuple #[.int .i64 (intV s.data.toList), .bool (intB s.data.toList)]) := by
  rw [tail_take, Bool.not_eq_true] at hf
  have hb : intB s.data.toList = false := by unfold intB; rw [if_pos hs, hf]; rfl
  exact ret_i (by unfold intV; rw [if_pos hs, hb]; rfl) hb

set_option maxHeartbeats 400000 in
theorem implInt_any (s : ByteArray) (w : World) (hs : s.size ≤ maxLen) :
    Calls Tryd.prog 17 #[.string s] w fun e w' => e = .returned (.tuple #[.int .i64 (intV s.data.toList), .bool (intB s.data.toList)]) ∧ w' = w := by
  unfold maxLen at hs
  go_enter Tryd.func17, Tryd.ntmps17
  go_wp2_with (first | (go_at_call 30; refine (got_any _ _ (by unfold maxLen; simp; omega)).mono ?_; rintro e w' ⟨rfl, rfl⟩) | go_in)
  · go_ret2; exact ⟨p1 (q1 ‹_› ‹_›) ‹_›, rfl⟩
  · go_ret2; exact ⟨p2 (q1 ‹_› ‹_›) ‹_›, rfl⟩
  · go_ret2; exact ⟨p3 (q2 ‹_› ‹_›) ‹_› ‹_›, rfl⟩
  · go_ret2; exact ⟨p4 (q2 ‹_› ‹_›) ‹_› ‹_›, rfl⟩
  · go_ret2; exact ⟨p5 (q2 ‹_› ‹_›) ‹_›, rfl⟩
  · go_ret2; exact ⟨p1 (signed_none ‹_›) ‹_›, rfl⟩
  · go_ret2; exact ⟨p2 (signed_none ‹_›) ‹_›, rfl⟩
end Go.Proofs.YtkpfoocfjhilmaaDoor
