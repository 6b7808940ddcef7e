/- The model's ListDrop at all arguments, and what is left of the others. -/
import Derived.Test.YtjgnfneondlhhaaDropS
namespace Go.Proofs.Ytjgnfneondlhhaa
open Go.RowKit

theorem dropR_len (l : List ByteArray) (c : Int) (t : ByteArray) (h : l.length ≤ 1048576) : (dropR l c t).length ≤ 1048576 := by
  unfold dropR; split
  · rw [turn_len]; have := runD_bd t (limD l c) (turn (frontD c) l); rw [turn_len] at this; unfold runC; omega
  · simp
theorem specDrop_all3 (v : Value) (l : List ByteArray) (c : Int) (t : ByteArray) (w : World) (hr : Reads w v l) (hlen : l.length ≤ 1048576) :
    Calls Try.prog 32 #[v, .int .i64 c, .string t] w fun e w' => ∃ u, e = .returned (.tuple #[u, .int .i64 (dropN l c t)]) ∧ Owns w' w.heap.size u (dropR l c t) ∧ Below w.heap.size w w' := by
  cases hb : dropB l c with
  | false => unfold dropN dropR; rw [hb]; exact specDrop_bad v l c t w hr hlen hb
  | true =>
    have hb' := hb
    unfold dropB at hb'; rw [Bool.and_eq_true] at hb'
    have bp := place_bd hb'.2
    unfold dropN dropR runC; rw [hb]
    rcases (show c < 0 ∨ c = 0 ∨ 0 < c by omega) with h | h | h
    · obtain ⟨m, rfl⟩ : ∃ m : Nat, c = -(m : Int) := ⟨c.natAbs, by omega⟩
      have hF : frontD (-(m : Int)) = false := by unfold frontD; simp; omega
      have hM : limD l (-(m : Int)) = m := by unfold limD; rw [if_neg (by omega)]; omega
      rw [hF, hM]; exact specDrop_neg v l m t w hr hb'.1 (by omega) (by omega)
    · subst h
      have hF : frontD 0 = true := rfl
      have hM : limD l 0 = l.length := rfl
      rw [hF, hM]; exact specDrop_all v l t w hr hb'.1
    · obtain ⟨m, rfl⟩ : ∃ m : Nat, c = (m : Int) := ⟨c.natAbs, by omega⟩
      have hF : frontD (m : Int) = true := by unfold frontD; simp
      have hM : limD l (m : Int) = m := by unfold limD; rw [if_neg (by omega)]; omega
      rw [hF, hM]; exact specDrop_pos v l m t w hr hb'.1 (by omega) (by omega)

/-- the texts that are not t -/
def oth (t : ByteArray) (l : List ByteArray) : List ByteArray := l.filter (fun s => decide (s ≠ t))
/-- how many texts are t -/
def cntT (t : ByteArray) (l : List ByteArray) : Nat := l.countP (fun s => decide (s = t))
theorem oth_turn (t : ByteArray) (F : Bool) (l : List ByteArray) : oth t (turn F l) = turn F (oth t l) := by
  cases F <;> simp [oth, turn]
theorem cnt_turn (t : ByteArray) (F : Bool) (l : List ByteArray) : cntT t (turn F l) = cntT t l := by
  cases F <;> simp [cntT, turn]
theorem oth_run (t : ByteArray) (lim : Nat) (l : List ByteArray) : oth t (runD t lim l).1 = oth t l := by
  have : ∀ (l : List ByteArray) (st : List ByteArray × Nat), oth t (l.foldl (stepD t lim) st).1 = oth t st.1 ++ oth t l := by
    intro l
    induction l with
    | nil => intro st; simp [oth]
    | cons s l ih =>
      intro st
      rw [List.foldl_cons, ih]
      unfold stepD; split
      · next h => simp [oth, h.1]
      · simp [oth, List.filter_cons]; split <;> simp
  have h := this l ([], 0)
  simpa [runD, oth] using h
theorem cnt_run (t : ByteArray) (lim : Nat) (l : List ByteArray) : (runD t lim l).2 = min lim (cntT t l) := by
  have : ∀ (l : List ByteArray) (st : List ByteArray × Nat), st.2 ≤ lim → (l.foldl (stepD t lim) st).2 = min lim (st.2 + cntT t l) := by
    intro l
    induction l with
    | nil => intro st h; simp [cntT]; omega
    | cons s l ih =>
      intro st h
      rw [List.foldl_cons]
      by_cases hs : s = t ∧ st.2 < lim
      · rw [stepD_hit hs.1 hs.2, ih _ (by simp; omega)]
        simp [cntT, hs.1]; omega
      · rw [stepD_miss hs, ih (st.1 ++ [s], st.2) h]
        by_cases h2 : s = t
        · have : ¬ st.2 < lim := fun h3 => hs ⟨h2, h3⟩
          simp [cntT, h2]; omega
        · simp [cntT, h2]
  have h := this l ([], 0) (Nat.zero_le _)
  simpa [runD] using h
theorem cnt_le (t : ByteArray) (l : List ByteArray) : cntT t l ≤ l.length := List.countP_le_length
theorem oth_snoc_hit {t s : ByteArray} {l : List ByteArray} (h : s = t) : oth t (l ++ [s]) = oth t l := by simp [oth, h]
theorem oth_snoc_miss {t s : ByteArray} {l : List ByteArray} (h : s ≠ t) : oth t (l ++ [s]) = oth t l ++ [s] := by simp [oth, h]
theorem cnt_snoc_hit {t s : ByteArray} {l : List ByteArray} (h : s = t) : cntT t (l ++ [s]) = cntT t l + 1 := by simp [cntT, h]
theorem cnt_snoc_miss {t s : ByteArray} {l : List ByteArray} (h : s ≠ t) : cntT t (l ++ [s]) = cntT t l := by simp [cntT, h]
theorem oth_len (t : ByteArray) (l : List ByteArray) : (oth t l).length ≤ l.length := List.length_filter_le _ _
/-- what a list is that is not empty behind the taking away -/
theorem drop_facts {l : List ByteArray} {c : Int} {t : ByteArray} (h : 0 < (dropR l c t).length) :
    oth t (dropR l c t) = oth t l ∧ ((dropR l c t).length : Int) + dropN l c t = l.length ∧ dropN l c t = (min (limD l c) (cntT t l) : Nat) := by
  have hb : dropB l c = true := by
    cases hb : dropB l c with
    | true => rfl
    | false => unfold dropR at h; rw [hb] at h; simp at h
  have hR : dropR l c t = turn (frontD c) (runC l c t).1 := by unfold dropR; rw [if_pos hb]
  have hN : dropN l c t = ((runC l c t).2 : Int) := by unfold dropN; rw [if_pos hb]
  have h1 := runD_bd t (limD l c) (turn (frontD c) l)
  have h2 := oth_run t (limD l c) (turn (frontD c) l)
  have h3 := cnt_run t (limD l c) (turn (frontD c) l)
  rw [turn_len] at h1
  rw [cnt_turn] at h3
  unfold runC at hR hN
  refine ⟨?_, ?_, ?_⟩
  · rw [hR, oth_turn, h2, oth_turn, turn_turn]
  · rw [hR, hN, turn_len]; omega
  · rw [hN, h3]
end Go.Proofs.Ytjgnfneondlhhaa
