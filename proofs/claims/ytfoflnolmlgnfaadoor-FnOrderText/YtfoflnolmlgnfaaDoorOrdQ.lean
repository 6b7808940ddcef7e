/- The machine's run, head by head and word by word: plain facts. -/
import Derived.Test.YtfoflnolmlgnfaaDoorOrdN
namespace Go.Proofs.YtfoflnolmlgnfaaDoor
open Go.RowKit
open num

/-- how many figures a list begins with, at most so many -/
def digs : Nat → List UInt8 → Nat
  | 0, _ => 0
  | _ + 1, [] => 0
  | f + 1, c :: t => if isDig c = true then digs f t + 1 else 0
theorem digs_le : ∀ (f : Nat) (t : List UInt8), digs f t ≤ t.length
  | 0, _ => Nat.zero_le _
  | _ + 1, [] => Nat.zero_le _
  | f + 1, c :: t => by unfold digs; split <;> simp [digs_le f t]
theorem digs_cap : ∀ (f : Nat) (t : List UInt8), digs f t ≤ f
  | 0, _ => Nat.zero_le _
  | _ + 1, [] => Nat.zero_le _
  | f + 1, c :: t => by unfold digs; split <;> simp [digs_cap f t]
theorem digs_all : ∀ (f : Nat) (t : List UInt8), (t.take (digs f t)).all isDig = true
  | 0, _ => rfl
  | _ + 1, [] => rfl
  | f + 1, c :: t => by
    unfold digs; split
    · next h => rw [List.take_succ_cons, List.all_cons, h, digs_all f t]; rfl
    · rfl
theorem dig_not13 {c : UInt8} (h : isDig c = true) : c ≠ 13 := by
  intro e; subst e; exact absurd h (by decide)
theorem digit_signed {l : List UInt8} (h : l.all isDig = true) : signed l = false := by
  cases l with
  | nil => rfl
  | cons c t =>
    simp only [List.all_cons, Bool.and_eq_true] at h
    have hc := h.1
    unfold signed
    rw [Bool.eq_false_iff]; intro e
    simp at e; subst e; exact absurd hc (by decide)
theorem fits_dig {l : List UInt8} (h : fits l = true) : l.all isDig = true := by
  unfold fits at h; simp only [Bool.and_eq_true] at h; exact h.1.1.1
theorem figB_plain {l : List UInt8} {lo hi : Int} (h0 : 0 ≤ lo) (h : figB l lo hi = true) : fits l = true ∧ intV l = (val l : Int) ∧ lo ≤ (val l : Int) ∧ (val l : Int) ≤ hi := by
  have hin := figB_in h
  have hb : intB l = true := by simp only [figB, Bool.and_eq_true] at h; exact h.1.1
  cases hs : signed l with
  | true =>
    have hv : intV l = -(val l.tail : Int) := by unfold intV; rw [if_pos hs, if_pos hb]
    unfold intB at hb; rw [if_pos hs] at hb; simp at hb
    omega
  | false =>
    have e : fits l = true := by unfold intB at hb; rw [hs] at hb; simpa using hb
    have hv : intV l = (val l : Int) := by unfold intV got; rw [hs, if_neg (by decide), if_pos e]
    rw [hv] at hin
    exact ⟨e, hv, hin.1, hin.2⟩
theorem val_cons (c : UInt8) (t : List UInt8) : val (c :: t) = t.foldl num.step (c.toNat - 48) := by
  unfold val; simp [num.step]
theorem long_val {l : List UInt8} (h : l.all isDig = true) (h1 : 3 ≤ l.length) (h2 : nought l = false) : 100 ≤ val l := by
  cases l with
  | nil => simp at h1
  | cons c t =>
    simp only [List.all_cons, Bool.and_eq_true] at h
    have h3 : 48 ≤ c.toNat := by have := h.1; simp [isDig] at this; omega
    have h4 : c.toNat ≠ 48 := by
      intro e
      simp only [List.length_cons] at h1
      have : nought (c :: t) = true := by unfold nought; simp [e]; omega
      rw [h2] at this; cases this
    have h5 := foldl_ge t (c.toNat - 48)
    have h6 : 10 ^ 2 ≤ 10 ^ t.length := Nat.pow_le_pow_right (by omega) (by simp at h1; omega)
    have h7 : 1 * 10 ^ t.length ≤ (c.toNat - 48) * 10 ^ t.length := Nat.mul_le_mul_right _ (by omega)
    rw [val_cons]; omega
theorem fits_nought' {l : List UInt8} (h : fits l = true) : nought l = false ∧ 1 ≤ l.length := by
  unfold fits at h; simp only [Bool.and_eq_true, decide_eq_true_eq] at h; exact ⟨by simpa using h.1.2, h.1.1.2⟩
theorem good_len {l : List UInt8} {lo hi : Int} (h0 : 0 ≤ lo) (hh : hi ≤ 40) (h : figB l lo hi = true) : l.length ≤ 2 := by
  obtain ⟨hf, _, _, hv⟩ := figB_plain h0 h
  by_cases h3 : 3 ≤ l.length
  · have := long_val (fits_dig hf) h3 (fits_nought' hf).1; omega
  · omega
theorem fig_is {l : List UInt8} {lo hi : Int} (h0 : 0 ≤ lo) (hd : l.all isDig = true) (hl : l.length ≤ 3) : figB l lo hi = inB (figs l) lo hi := by
  have hs := digit_signed hd
  have e1 := plain_B (l := l) (.inl hs)
  have e2 := plain_V (l := l) (.inl hs)
  have hle : figs l ≤ 1000000000 := by
    unfold figs; split
    · have := val_lt l hd
      have h3 : 10 ^ l.length ≤ 10 ^ 3 := Nat.pow_le_pow_right (by omega) hl
      omega
    · omega
  unfold figB
  cases hb : intB l with
  | true => rw [hb] at e2; rw [e2]; simp [inB]
  | false =>
    rw [e1] at hb
    simp only [inB, Bool.and_eq_false_iff, decide_eq_false_iff_not] at hb
    rw [Bool.false_and, Bool.false_and, eq_comm]
    simp only [inB, Bool.and_eq_false_iff, decide_eq_false_iff_not]
    left; omega
theorem nought_pre {d e : List UInt8} (h : nought (d ++ e) = false) : nought d = false := by
  cases d with
  | nil => rfl
  | cons c t =>
    unfold nought at h ⊢
    simp at h ⊢
    omega
theorem val_pre (d e : List UInt8) : val d ≤ val (d ++ e) := by
  have := val_take_le (d ++ e) d.length
  rwa [List.take_left] at this
theorem figs_pre {d e : List UInt8} {lo hi : Int} (hne : d ≠ []) (h0 : 0 ≤ lo) (h1 : lo ≤ 1) (h : inB (figs (d ++ e)) lo hi = true) : inB (figs d) lo hi = true := by
  simp only [inB, Bool.and_eq_true, decide_eq_true_eq] at h ⊢
  have hq : (d ++ e).all isDig = true ∧ 1 ≤ (d ++ e).length ∧ (d ++ e).length ≤ 10 ∧ nought (d ++ e) = false := by
    by_cases hq : (d ++ e).all isDig = true ∧ 1 ≤ (d ++ e).length ∧ (d ++ e).length ≤ 10 ∧ nought (d ++ e) = false
    · exact hq
    · have := h.1; unfold figs at this; rw [if_neg hq] at this; omega
  have e1 : figs (d ++ e) = val (d ++ e) := by unfold figs; rw [if_pos hq]
  have hd : d.all isDig = true := by have := hq.1; rw [List.all_append, Bool.and_eq_true] at this; exact this.1
  have hl : 1 ≤ d.length := by cases d with | nil => exact absurd rfl hne | cons c t => simp
  have hn := nought_pre hq.2.2.2
  have e2 : figs d = val d := by
    unfold figs; rw [if_pos ⟨hd, hl, by have := hq.2.2.1; simp at this; omega, hn⟩]
  rw [e1] at h; rw [e2]
  have hp := val_pre d e
  refine ⟨?_, by omega⟩
  by_cases hz : 1 ≤ val d
  · omega
  · have hv0 : val d = 0 := by omega
    cases d with
    | nil => exact absurd rfl hne
    | cons c t =>
      simp only [List.all_cons, Bool.and_eq_true] at hd
      have h3 : 48 ≤ c.toNat := by have := hd.1; simp [isDig] at this; omega
      have h5 := foldl_ge t (c.toNat - 48)
      rw [← val_cons, hv0] at h5
      have h6 : 1 ≤ 10 ^ t.length := Nat.one_le_pow _ _ (by omega)
      have h7 : c.toNat = 48 := by
        by_cases h8 : c.toNat = 48
        · exact h8
        · have : 1 * 1 ≤ (c.toNat - 48) * 10 ^ t.length := Nat.mul_le_mul (by omega) h6
          omega
      have h9 := hq.2.2.2
      have h10 : (c :: t ++ e).length ≤ 1 := by
        by_cases hq : (c :: t ++ e).length ≤ 1
        · exact hq
        · exfalso
          have : nought (c :: t ++ e) = true := by
            unfold nought
            rw [Bool.and_eq_true]
            refine ⟨by rw [decide_eq_true_eq]; omega, ?_⟩
            show (c.toNat == 48) = true
            rw [h7]; rfl
          rw [h9] at this; cases this
      simp only [List.length_append, List.length_cons] at h10
      have ht : t = [] := List.length_eq_zero_iff.1 (by omega)
      have he : e = [] := List.length_eq_zero_iff.1 (by omega)
      subst ht; subst he
      simp [val, num.step, h7] at h; omega
theorem fig_bad {b : List UInt8} {c : UInt8} {lo hi : Int} (h0 : 0 ≤ lo) (hc : isDig c = false) : figB (b ++ [c]) lo hi = false := by
  cases h : figB (b ++ [c]) lo hi with
  | false => rfl
  | true =>
    have := fits_dig (figB_plain h0 h).1
    rw [List.all_append] at this; simp [hc] at this
def good (b : List UInt8) (lo hi : Int) : Prop := b = [] ∨ figB b lo hi = true
theorem good_dig {b : List UInt8} {lo hi : Int} (h0 : 0 ≤ lo) (h : good b lo hi) : b.all isDig = true := by
  rcases h with rfl | h
  · rfl
  · exact fits_dig (figB_plain h0 h).1

/-- what is wrong with a head: d the figures, j how many of them stand ahead in t -/
def hbad (d t : List UInt8) (j : Nat) (lo hi : Int) : Prop :=
  (j < t.length ∧ (d = [] ∨ t.getD j 0 ≠ 13)) ∨ (j + 1 < t.length ∧ t.getD (j + 1) 0 ≠ 10) ∨ (d ≠ [] ∧ inB (figs d) lo hi = false)
instance (d t : List UInt8) (j : Nat) (lo hi : Int) : Decidable (hbad d t j lo hi) := by unfold hbad; infer_instance

section
variable {R : Type} (M E F : List UInt8 → List UInt8 → Nat → R) (no none_ : R) (lo hi : Int)
theorem head_run (h0 : 0 ≤ lo) (h1 : lo ≤ 1) (hh : hi ≤ 40)
    (m0 : ∀ b p, M b [] p = none_) (m13 : ∀ b t p, M b (13 :: t) p = if intB b = true then E b t (p + 1) else no)
    (mc : ∀ b c t p, c ≠ 13 → M b (c :: t) p = if figB (b ++ [c]) lo hi = true then M (b ++ [c]) t (p + 1) else no)
    (e0 : ∀ b p, E b [] p = none_) (ec : ∀ b c t p, E b (c :: t) p = if c = 10 then F b t (p + 1) else no) :
    ∀ (f : Nat) (b t : List UInt8) (p : Nat), good b lo hi → b.length + f = 3 →
      M b t p = if hbad (b ++ t.take (digs f t)) t (digs f t) lo hi then no else if t.length ≤ digs f t + 1 then none_ else F (b ++ t.take (digs f t)) (t.drop (digs f t + 2)) (p + digs f t + 2)
  | 0, b, t, p, hg, hl => by
    rcases hg with rfl | hg
    · simp at hl
    · have := good_len h0 hh hg; omega
  | f + 1, b, [], p, hg, hl => by
    rw [m0, if_neg, if_pos (by simp)]
    unfold hbad
    simp only [List.length_nil, List.take_nil, List.append_nil]
    rcases hg with rfl | hg
    · simp [digs]
    · have := good_dig h0 (.inr hg)
      rw [fig_is h0 this (by omega)] at hg
      simp [digs, hg]
  | f + 1, b, c :: t, p, hg, hl => by
    by_cases hd : isDig c = true
    · have ej : digs (f + 1) (c :: t) = digs f t + 1 := by simp [digs, hd]
      rw [ej, List.take_succ_cons, mc b c t p (dig_not13 hd)]
      have ea : b ++ c :: t.take (digs f t) = (b ++ [c]) ++ t.take (digs f t) := by simp
      rw [ea]
      have hbad' : hbad ((b ++ [c]) ++ t.take (digs f t)) (c :: t) (digs f t + 1) lo hi ↔ hbad ((b ++ [c]) ++ t.take (digs f t)) t (digs f t) lo hi := by
        unfold hbad; simp
      by_cases hf : figB (b ++ [c]) lo hi = true
      · rw [if_pos hf, head_run h0 h1 hh m0 m13 mc e0 ec f (b ++ [c]) t (p + 1) (.inr hf) (by simp; omega)]
        by_cases hq : hbad ((b ++ [c]) ++ t.take (digs f t)) t (digs f t) lo hi
        · rw [if_pos hq, if_pos (hbad'.2 hq)]
        · rw [if_neg hq, if_neg (fun h => hq (hbad'.1 h))]
          have e2 : (c :: t).drop (digs f t + 1 + 2) = t.drop (digs f t + 2) := rfl
          have e3 : p + 1 + digs f t + 2 = p + (digs f t + 1) + 2 := by omega
          rw [e2, e3]; simp
      · rw [if_neg hf, if_pos]
        right; right
        refine ⟨by simp, ?_⟩
        rw [Bool.eq_false_iff]; intro h
        apply hf
        have hdd : (b ++ [c]).all isDig = true := by rw [List.all_append, good_dig h0 hg]; simp [hd]
        rw [fig_is h0 hdd (by simp; omega)]
        exact figs_pre (by simp) h0 h1 h
    · have hd' : isDig c = false := by simpa using hd
      have ej : digs (f + 1) (c :: t) = 0 := by simp [digs, hd']
      rw [ej, List.take_zero, List.append_nil]
      by_cases hc : c = 13
      · subst hc
        rw [m13]
        rcases hg with rfl | hg
        · rw [if_neg (by decide), if_pos]
          left; simp
        · have hb : intB b = true := by simp only [figB, Bool.and_eq_true] at hg; exact hg.1.1
          have hne : b ≠ [] := by intro e; subst e; exact absurd hb (by decide)
          have hin : inB (figs b) lo hi = true := by rw [← fig_is h0 (good_dig h0 (.inr hg)) (by omega)]; exact hg
          rw [if_pos hb]
          cases t with
          | nil => rw [e0, if_neg (by unfold hbad; simp [hne, hin]), if_pos (by simp)]
          | cons c2 t2 =>
            rw [ec]
            by_cases h10 : c2 = 10
            · subst h10
              rw [if_pos rfl, if_neg (by unfold hbad; simp [hne, hin]), if_neg (by simp)]
              rfl
            · rw [if_neg h10, if_pos (by unfold hbad; right; left; simpa using h10)]
      · rw [mc b c t p hc, if_neg (by rw [fig_bad h0 hd']; decide), if_pos]
        left; simp [hc]
end
end Go.Proofs.YtfoflnolmlgnfaaDoor
