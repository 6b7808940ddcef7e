/- Marks: texts that the laws write into memory, and ask for again. -/
import Derived.Test.YtbkllceceaedpaaSlA
import Derived.Deep.RegionHeld3
import Derived.Laws.BytesArg
namespace Go.Proofs.Ytbkllceceaedpaa
open Go.RowKit

/-- the figures of n ahead of t -/
def figsOf : Nat → Nat → ByteArray → ByteArray
  | 0, _, t => t
  | f + 1, n, t => if n = 0 then t else figsOf f (n / 10) (strOfNums [48 + (n : Int) % 10] ++ t)
theorem figsOf_enough (f : Nat) : ∀ n t, n ≤ f → figsOf f n t = figsOf n n t := by
  induction f using Nat.strongRecOn with
  | _ f ih =>
    intro n t h
    match f, n with
    | 0, 0 => rfl
    | f + 1, 0 => simp [figsOf]
    | f + 1, n + 1 =>
      show (if n + 1 = 0 then t else figsOf f ((n + 1) / 10) _) = (if n + 1 = 0 then t else figsOf n ((n + 1) / 10) _)
      rw [if_neg (by omega), if_neg (by omega), ih f (by omega) _ _ (by omega)]
      rw [ih n (by omega) _ _ (by omega)]
theorem figsOf_step {n : Nat} (t : ByteArray) (h : 0 < n) : figsOf n n t = figsOf (n / 10) (n / 10) (strOfNums [48 + (n : Int) % 10] ++ t) := by
  obtain ⟨m, rfl⟩ : ∃ m, n = m + 1 := ⟨n - 1, by omega⟩
  show (if m + 1 = 0 then t else figsOf m ((m + 1) / 10) _) = _
  rw [if_neg (by omega), figsOf_enough m _ _ (by omega)]
def mk (k : Int) : ByteArray := ⟨#[109]⟩ ++ figsOf k.toNat k.toNat ByteArray.empty

theorem cell_new_one (w : World) (x : Int) (t : TypeId) : ∀ i, i < 1 → (w.alloc (.cells #[.int .u8 x] t)).cell? ⟨w.heap.size, 0 + i, none⟩ = some (.int .u8 ([x].getD i 0)) := by
  intro i hi
  obtain rfl : i = 0 := by omega
  rw [cell_of_row _ _ _ _ _ _ (heap_alloc_new w _)]; rfl

set_option maxHeartbeats 1000000 in
theorem mark_any (k : Int) (w : World) (h0 : 0 < k) (h1 : k ≤ 9000000) :
    Calls Try.prog 63 #[.int .i64 k] w fun e w' => e = .returned (.string (mk k)) ∧ Below w.heap.size w w' := by
  obtain ⟨K, rfl⟩ := Int.eq_ofNat_of_zero_le (show 0 ≤ k by omega)
  have HM : Hid (mk (K : Int) = (⟨#[109]⟩ : ByteArray) ++ figsOf K K ByteArray.empty) := by show _ = _; unfold mk; rw [Int.toNat_natCast]
  go_enter Try.func63, Try.ntmps63
  go_wp2_with fail
  go_loopw [0, 3] (fun i s wr => ∃ (n : Nat) (t : ByteArray), n ≤ 9000000 ∧ i = .int .i64 n ∧ s = .string t ∧ t.size + n ≤ 9000000 ∧ figsOf n n t = figsOf K K ByteArray.empty ∧ Below w.heap.size w wr) (fun i _ _ => (intOf i).toNat)
  case atStart => exact ⟨K, ByteArray.empty, by omega, rfl, rfl, by simp; omega, rfl, Below.refl _ _⟩
  case round =>
    obtain ⟨n, t, hn, rfl, rfl, ht, hfig, hB⟩ := hrel
    have HFIG : Hid (figsOf n n t = figsOf K K ByteArray.empty) := hfig
    clear hfig
    by_cases hp : 0 < n
    · have hsz := hB.size
      have hcv := run_convert_bytes_arg (P := Try.prog) (wr.alloc (.cells #[.int .u8 (48 + (n : Int) % 10)] 5)) 124 5 Try.underlying124 Try.underlying5 wr.heap.size 0 1 1 [48 + (n : Int) % 10] rfl (cell_new_one _ _ _) 9 Try.underlying9
      have hs1 := strOfNums_size [48 + (n : Int) % 10]
      go_wp2_with fail
      go_roundw
      case rel => exact ⟨n / 10, _, by omega, by go_num, rfl, by rw [ByteArray.size_append, hs1]; simp; omega, by rw [← figsOf_step t hp]; exact HFIG.out, hB.alloc hsz _⟩
      case measure => simp [intOf]; omega
    · obtain rfl : n = 0 := by omega
      go_wp2_with fail
      go_ret
      refine ⟨?_, hB⟩
      rw [HM.out, ← HFIG.out]; rfl

/-- n marks from k on -/
def marks (k n : Nat) : List ByteArray := (List.range n).map fun (i : Nat) => mk ((k : Int) + (i : Int))
theorem marks_len (k n : Nat) : (marks k n).length = n := by simp [marks]
theorem marks_at {k n i : Nat} (h : i < n) : at_ (marks k n) i = mk ((k : Int) + (i : Int)) := by
  rw [at_lt (by rw [marks_len]; exact h)]; simp [marks]
/-- the first i places are marked -/
def markedTo (l : List ByteArray) (k i : Nat) : List ByteArray := marks k i ++ l.drop i
theorem markedTo_len {l : List ByteArray} {k i : Nat} (h : i ≤ l.length) : (markedTo l k i).length = l.length := by simp [markedTo, marks_len]; omega
theorem markedTo_set {l : List ByteArray} {k i : Nat} (h : i < l.length) : (markedTo l k i).set i (mk ((k : Int) + (i : Int))) = markedTo l k (i + 1) := by
  unfold markedTo
  rw [List.set_append_right _ _ (by rw [marks_len]; exact Nat.le_refl _), marks_len, Nat.sub_self, List.drop_eq_getElem_cons h, List.set_cons_zero]
  have : marks k (i + 1) = marks k i ++ [mk ((k : Int) + (i : Int))] := by unfold marks; rw [List.range_succ, List.map_append]; rfl
  rw [this, List.append_assoc]; rfl
theorem markedTo_all (l : List ByteArray) (k : Nat) : markedTo l k l.length = marks k l.length := by simp [markedTo]

theorem owns_form {w : World} {base : Nat} {v : Value} {l : List ByteArray} (h : Owns w base v l) :
    (l = [] ∧ ∃ ao cap, v = .slice ao 0 cap) ∨ (0 < l.length ∧ ∃ g cap, v = .slice (some ⟨g, 0, none⟩) l.length cap) := by
  rcases h.2 with ⟨rfl, hn⟩ | ⟨g, cap, cur, rfl, _, _, _, _, _, _⟩
  · exact .inl ⟨List.length_eq_zero_iff.1 hn, _, _, rfl⟩
  · by_cases h0 : l.length = 0
    · refine .inl ⟨List.length_eq_zero_iff.1 h0, ?_⟩; rw [h0]; exact ⟨_, _, rfl⟩
    · exact .inr ⟨by omega, g, cap, rfl⟩

theorem owns_stored {w : World} {base g cap : Nat} {l : List ByteArray} (h : Owns w base (.slice (some ⟨g, 0, none⟩) l.length cap) l) (i : Nat) (s : ByteArray) (l' : List ByteArray) (hl : l' = l.set i s) :
    Owns (w.setCell ⟨g, i, none⟩ (.string s)) base (.slice (some ⟨g, 0, none⟩) l.length cap) l' ∧ w.grownBy (w.setCell ⟨g, i, none⟩ (.string s)) (some g) := by
  subst hl
  unfold Owns
  have := World.ownsRow.stored h i (.string s)
  rw [List.length_set, List.map_set]
  exact this

theorem grown_trans2 {a b c : World} {r : Option Nat} (h : a.grownBy b r) (k : b.grownBy c r) : a.grownBy c r :=
  ⟨k.os.trans h.os, k.tape.trans h.tape, k.output.trans h.output, Nat.le_trans h.size k.size, fun i hi hr => (k.block i (Nat.lt_of_lt_of_le hi h.size) hr).trans (h.block i hi hr)⟩
theorem grown_of_below2 {a b : World} {r : Option Nat} (h : Below a.heap.size a b) : a.grownBy b r := ⟨h.os, h.tape, h.output, h.size, fun i hi _ => h.block i hi⟩

theorem held_on {wr w2 w3 : World} {b o : Nat} {x : Value} (hb : b < wr.heap.size) (h3 : Below w2.heap.size w2 w3) (h : w2.cell? ⟨b, o, none⟩ = some x ∧ Below wr.heap.size wr w2) : w3.cell? ⟨b, o, none⟩ = some x ∧ Below wr.heap.size wr w3 :=
  ⟨(h3.cell (p := ⟨b, o, none⟩) (Nat.lt_of_lt_of_le hb h.2.size)).trans h.1, h.2.trans (h3.mono h.2.size)⟩
theorem ne_self (s : ByteArray) : (!s.toList == s.toList) = false := by simp

end Go.Proofs.Ytbkllceceaedpaa
