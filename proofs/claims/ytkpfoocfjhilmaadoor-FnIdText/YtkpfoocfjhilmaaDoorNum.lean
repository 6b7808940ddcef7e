/- Plain facts on figures: no Go text here. -/
import Derived.WalkKit
namespace Go.Proofs.YtkpfoocfjhilmaaDoor.num

def isDig (c : UInt8) : Bool := decide (48 ≤ c.toNat) && decide (c.toNat ≤ 57)
def step (n : Nat) (c : UInt8) : Nat := n * 10 + (c.toNat - 48)
def val (l : List UInt8) : Nat := l.foldl step 0
def nought (l : List UInt8) : Bool := decide (1 < l.length) && (l.headD 0).toNat == 48
/-- what the model reads: -1 where they are no figures, more than ten, or have a nought ahead -/
def figs (l : List UInt8) : Int :=
  if l.all isDig = true ∧ 1 ≤ l.length ∧ l.length ≤ 10 ∧ nought l = false then (val l : Int) else -1
/-- what the program reads -/
def fits (l : List UInt8) : Bool := l.all isDig && decide (1 ≤ l.length) && !nought l && decide (val l ≤ 1000000000)

theorem val_snoc (l : List UInt8) (c : UInt8) : val (l ++ [c]) = val l * 10 + (c.toNat - 48) := by
  simp [val, step]

theorem take_snoc (s : ByteArray) (k : Nat) (h : k < s.size) : s.data.toList.take (k + 1) = s.data.toList.take k ++ [s[k]] := by
  rw [List.take_succ_eq_append_getElem (by simpa using h)]; rfl

theorem foldl_ge (l : List UInt8) : ∀ a, a * 10 ^ l.length ≤ l.foldl step a := by
  induction l with
  | nil => intro a; simp
  | cons c l ih =>
    intro a
    have := ih (step a c)
    simp only [List.foldl_cons, List.length_cons]
    refine Nat.le_trans ?_ this
    rw [Nat.pow_succ, Nat.mul_comm (10 ^ l.length) 10, ← Nat.mul_assoc]
    exact Nat.mul_le_mul_right _ (by unfold step; omega)

theorem foldl_lt (l : List UInt8) : ∀ a, l.all isDig = true → l.foldl step a < (a + 1) * 10 ^ l.length := by
  induction l with
  | nil => intro a _; simp
  | cons c l ih =>
    intro a h
    simp only [List.all_cons, Bool.and_eq_true] at h
    have h2 : c.toNat ≤ 57 := by have := h.1; simp [isDig] at this; omega
    have := ih (step a c) h.2
    simp only [List.foldl_cons, List.length_cons]
    refine Nat.lt_of_lt_of_le this ?_
    rw [Nat.pow_succ, Nat.mul_comm (10 ^ l.length) 10, ← Nat.mul_assoc]
    exact Nat.mul_le_mul_right _ (by unfold step; omega)

theorem val_take_le (l : List UInt8) (k : Nat) : val (l.take k) ≤ val l := by
  have h := foldl_ge (l.drop k) (val (l.take k))
  have e : (l.drop k).foldl step (val (l.take k)) = val l := by
    unfold val; rw [← List.foldl_append, List.take_append_drop]
  rw [e] at h
  exact Nat.le_trans (Nat.le_mul_of_pos_right _ (Nat.pow_pos (by omega))) h

theorem val_lt (l : List UInt8) (h : l.all isDig = true) : val l < 10 ^ l.length := by
  have := foldl_lt l 0 h; simpa [val] using this

theorem val_long (l : List UInt8) (h : l.all isDig = true) (h1 : 10 < l.length) (h2 : nought l = false) : 1000000000 < val l := by
  cases l with
  | nil => simp at h1
  | cons c t =>
    simp only [List.all_cons, Bool.and_eq_true] at h
    have h3 : 48 ≤ c.toNat := by have := h.1; simp [isDig] at this; omega
    have h4 : c.toNat ≠ 48 := by
      intro e
      simp [nought, e] at h2
      simp [h2] at h1
    have h5 := foldl_ge t (step 0 c)
    have h6 : 10 ^ 10 ≤ 10 ^ t.length := Nat.pow_le_pow_right (by omega) (by simp at h1; omega)
    have h7 : 1 * 10 ^ t.length ≤ step 0 c * 10 ^ t.length := Nat.mul_le_mul_right _ (by unfold step; omega)
    have h8 : val (c :: t) = t.foldl step (step 0 c) := rfl
    rw [h8]
    omega

theorem all_take (l : List UInt8) (k : Nat) (h : l.all isDig = true) : (l.take k).all isDig = true := by
  rw [List.all_eq_true] at h ⊢
  exact fun x hx => h x (List.mem_of_mem_take hx)

/-- the two agree -/
theorem figs_fits (l : List UInt8) : fits l = decide (0 ≤ figs l ∧ figs l ≤ 1000000000) := by
  unfold fits figs
  by_cases h1 : l.all isDig = true
  · by_cases h2 : 1 ≤ l.length
    · cases h3 : nought l with
      | true => simp
      | false =>
        by_cases h4 : l.length ≤ 10
        · simp [h1, h2, h4]
          omega
        · have := val_long l h1 (by omega) h3
          simp [h1, h2, h4]
          omega
    · simp [h2]
  · simp [h1]
theorem figs_of_fits (l : List UInt8) (h : fits l = true) : figs l = val l := by
  have h' := h
  rw [figs_fits] at h'
  unfold figs at h' ⊢
  split
  · rfl
  · rename_i hn; rw [if_neg hn] at h'; simp at h'
theorem val_le_of_fits (l : List UInt8) (h : fits l = true) : val l ≤ 1000000000 := by
  simp [fits] at h; omega
theorem figs_le (l : List UInt8) : -1 ≤ figs l ∧ figs l ≤ 9999999999 := by
  unfold figs
  split
  · rename_i h
    have h1 := val_lt l h.1
    have h2 : 10 ^ l.length ≤ 10 ^ 10 := Nat.pow_le_pow_right (by omega) h.2.2.1
    omega
  · omega
end Go.Proofs.YtkpfoocfjhilmaaDoor.num
