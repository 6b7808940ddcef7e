/- The reader of a code, of which draws are made. -/
import Derived.Test.YtfcnhdaefleelaaOkS
import Derived.Laws.BitsAllLaws
namespace Go.Proofs.Ytfcnhdaefleelaa
open Go.RowKit

/-- byte number k -/
def bt (zs : List Int) (k : Nat) : Int := zs.getD k 0
/-- the value leads to the bytes zs -/
def IsBytes (w : World) (v : Value) (zs : List Int) : Prop :=
  ∃ ao cap, v = .slice ao zs.length cap ∧ zs.length ≤ cap ∧ cap ≤ maxLen ∧ (∀ z ∈ zs, 0 ≤ z ∧ z ≤ 255) ∧ (0 < zs.length → ∃ b off, ao = some ⟨b, off, none⟩ ∧ b < w.heap.size ∧ ∀ k, k < zs.length → w.cell? ⟨b, off + k, none⟩ = some (.int .u8 (bt zs k)))

/-- block r holds a reader at place p of the bytes zs -/
def RdAt (w : World) (r : Nat) (v : Value) (zs : List Int) (p : Nat) : Prop :=
  w.heap[r]? = some (.cells #[v, .int .i64 (p : Int)] 60 (0, 0)) ∧
  ∃ ao cap, v = .slice ao zs.length cap ∧ zs.length ≤ 2000 ∧ (∀ z ∈ zs, 0 ≤ z ∧ z ≤ 255) ∧ (0 < zs.length → ∃ b off, ao = some ⟨b, off, none⟩ ∧ b < r ∧ ∀ k, k < zs.length → w.cell? ⟨b, off + k, none⟩ = some (.int .u8 (bt zs k)))
theorem rd_lt {w : World} {r p : Nat} {v : Value} {zs : List Int} (h : RdAt w r v zs p) : r < w.heap.size := (Array.getElem?_eq_some_iff.1 h.1).1
theorem rd_v {w : World} {r p : Nat} {v : Value} {zs : List Int} (h : RdAt w r v zs p) : w.cell? ⟨r, 0, none⟩ = some v := by rw [cell_of_row w r 0 _ _ _ h.1]; rfl
theorem rd_p {w : World} {r p : Nat} {v : Value} {zs : List Int} (h : RdAt w r v zs p) : w.cell? ⟨r, 1, none⟩ = some (.int .i64 (p : Int)) := by rw [cell_of_row w r 1 _ _ _ h.1]; rfl
theorem rd_frozen {w : World} {r p : Nat} {v : Value} {zs : List Int} (h : RdAt w r v zs p) : w.frozen? ⟨r, 1, none⟩ = false := frozen_of_row w r 1 _ _ h.1
theorem rd_set {w : World} {r p : Nat} {v : Value} {zs : List Int} (h : RdAt w r v zs p) : RdAt (w.setCell ⟨r, 1, none⟩ (.int .i64 ((p : Int) + 1))) r v zs (p + 1) := by
  obtain ⟨h1, ao, cap, hv, h2, h3, h4⟩ := h
  refine ⟨?_, ao, cap, hv, h2, h3, fun h0 => ?_⟩
  · rw [heap_setCell_same w r 1 _ _ _ h1]; congr 2
  · obtain ⟨b, off, hao, hb, hc⟩ := h4 h0
    refine ⟨b, off, hao, hb, fun k hk => ?_⟩
    rw [← hc k hk]
    exact World.cell?_of_block (heap_setCell_other w ⟨r, 1, none⟩ b _ (by simp; omega))
/-- a reader is still there where nothing but rows behind it was written -/
theorem rd_kept {w w' : World} {r p : Nat} {v : Value} {zs : List Int} (h : RdAt w r v zs p) {B : Nat} (hb : Below B w w') (hB : r < B) : RdAt w' r v zs p := by
  obtain ⟨h1, ao, cap, hv, h2, h3, h4⟩ := h
  refine ⟨(hb.block r hB).trans h1, ao, cap, hv, h2, h3, fun h0 => ?_⟩
  obtain ⟨b, off, hao, hbr, hc⟩ := h4 h0
  exact ⟨b, off, hao, hbr, fun k hk => (hb.cell (p := ⟨b, off + k, none⟩) (show b < B by omega)).trans (hc k hk)⟩
theorem byte_bd {zs : List Int} (h : ∀ z ∈ zs, 0 ≤ z ∧ z ≤ 255) (k : Nat) : 0 ≤ bt zs k ∧ bt zs k ≤ 255 := by
  unfold bt
  rw [List.getD_eq_getElem?_getD]
  cases hk : zs[k]? with
  | none => simp
  | some z => simpa using h z (List.mem_of_getElem? hk)

theorem mod_bd {a n : Int} (_h : 0 ≤ a) (hn : 1 ≤ n) : 0 ≤ a % n ∧ a % n < n := ⟨Int.emod_nonneg _ (by omega), Int.emod_lt_of_pos _ (by omega)⟩

theorem tmod_bd {a n : Int} (h : 0 ≤ a) (hn : 1 ≤ n) : 0 ≤ a.tmod n ∧ a.tmod n < n := ⟨Int.tmod_nonneg _ h, Int.tmod_lt_of_pos _ (by omega)⟩
theorem xor_nonneg {a b : Int} (ha : 0 ≤ a) (ha2 : a < 4294967296) (hb : 0 ≤ b) (hb2 : b < 4294967296) : 0 ≤ bits .xor .i64 a b := by
  obtain ⟨x, rfl⟩ := Int.eq_ofNat_of_zero_le ha
  obtain ⟨y, rfl⟩ := Int.eq_ofNat_of_zero_le hb
  have h1 : x ^^^ y < 2 ^ 32 := Nat.xor_lt_two_pow (by omega) (by omega)
  have hx : (BitVec.ofInt 64 (x : Int)).toNat = x := by rw [BitVec.ofInt_natCast, BitVec.toNat_ofNat]; omega
  have hy : (BitVec.ofInt 64 (y : Int)).toNat = y := by rw [BitVec.ofInt_natCast, BitVec.toNat_ofNat]; omega
  have h2 : ((BitVec.ofInt 64 (x : Int)) ^^^ (BitVec.ofInt 64 (y : Int))).toNat = x ^^^ y := by rw [BitVec.toNat_xor, hx, hy]
  show 0 ≤ IntKind.i64.wrap ((((BitVec.ofInt 64 (x : Int)) ^^^ (BitVec.ofInt 64 (y : Int))).toNat : Nat) : Int)
  rw [h2]
  unfold IntKind.wrap; simp [IntKind.signed, IntKind.bits]; omega

set_option maxHeartbeats 4000000 in
theorem pick_any (r p : Nat) (v : Value) (zs : List Int) (n : Int) (w : World) (h : RdAt w r v zs p) (hp : p ≤ 100000) (hn : 1 ≤ n) (hn2 : n ≤ 100000) :
    Calls Try.prog 20 #[.pointer (some ⟨r, 0, none⟩), .int .i64 n] w fun e w' => ∃ x : Int, e = .returned (.int .i64 x) ∧ 0 ≤ x ∧ x < n ∧ RdAt w' r v zs (p + 1) ∧ w.grownBy w' (some r) := by
  have hcv := rd_v h
  have hcp := rd_p h
  have hfz := rd_frozen h
  have h1 := rd_set h
  have hcv1 := rd_v h1
  have hcp1 := rd_p h1
  have ec : (((p + 1 : Nat)) : Int) = (p : Int) + 1 := by omega
  rw [ec] at hcp1
  clear ec
  have hg1 : w.grownBy (w.setCell ⟨r, 1, none⟩ (.int .i64 ((p : Int) + 1))) (some r) := ⟨rfl, rfl, rfl, by simp, fun k _ hk => heap_setCell_other w ⟨r, 1, none⟩ k _ (fun e => hk (by simp [e]))⟩
  obtain ⟨ao, cap, rfl, hz2, hzb, hz⟩ := h1.2
  by_cases h0 : zs.length = 0
  · have h0' : ((zs.length : Int) == 0) = true := by rw [h0]; rfl
    have H0 : Hid (zs.length = 0) := h0
    clear h0 hz
    go_enter Try.func20, Try.ntmps20
    go_wp2_with fail
    go_ret
    exact ⟨0, rfl, by omega, by omega, h1, hg1⟩
  · obtain ⟨b, off, rfl, hb, hc⟩ := hz (by omega)
    have h0' : ((zs.length : Int) == 0) = false := beq_eq_false_iff_ne.2 (by omega)
    by_cases hk : p < zs.length
    · have hcell := hc p hk
      obtain ⟨hbd1, hbd2⟩ := byte_bd hzb p
      have hkl : (p : Int) < (zs.length : Int) := by omega
      clear hc hz
      go_enter Try.func20, Try.ntmps20
      go_wp2_with fail
      go_ret
      exact ⟨_, rfl, (mod_bd hbd1 hn).1, (mod_bd hbd1 hn).2, h1, hg1⟩
    · have hkl : ¬ (p : Int) < (zs.length : Int) := by omega
      obtain ⟨q1, hq1⟩ : ∃ q : Nat, (p : Int) % (zs.length : Int) = (q : Int) := ⟨p % zs.length, by omega⟩
      obtain ⟨q2, hq2⟩ : ∃ q : Nat, ((p : Int) * 7 + 3) % (zs.length : Int) = (q : Int) := ⟨(p * 7 + 3) % zs.length, by rw [Int.natCast_emod]; congr 1⟩
      have hl0 : (0 : Int) < (zs.length : Int) := by omega
      have hq1l : (q1 : Int) < (zs.length : Int) := by rw [← hq1]; exact Int.emod_lt_of_pos _ hl0
      have hq2l : (q2 : Int) < (zs.length : Int) := by rw [← hq2]; exact Int.emod_lt_of_pos _ hl0
      have hcell1 := hc q1 (by omega)
      have hcell2 := hc q2 (by omega)
      obtain ⟨hbd1, hbd2⟩ := byte_bd hzb q1
      obtain ⟨hbd3, hbd4⟩ := byte_bd hzb q2
      have hdv1 : 0 ≤ (p : Int) / (zs.length : Int) := Int.ediv_nonneg (by omega) (by omega)
      have hdv2 : (p : Int) / (zs.length : Int) ≤ 100000 := Int.le_trans (Int.ediv_le_self _ (by omega)) (by omega)
      clear hc hz
      go_enter Try.func20, Try.ntmps20
      go_wp2_with fail
      go_quiet (fail)
      go_wp2_with fail
      go_ret
      exact ⟨_, rfl, (tmod_bd (xor_nonneg (by omega) (by omega) (by omega) (by omega)) hn).1, (tmod_bd (xor_nonneg (by omega) (by omega) (by omega) (by omega)) hn).2, h1, ⟨hg1.os, hg1.tape, hg1.output, hg1.size, hg1.block⟩⟩
end Go.Proofs.Ytfcnhdaefleelaa
