/- Patterns: a star is any bytes, a question mark any one. Plain facts: no program here. -/
import Derived.Test.YtaiboncomibikaaGreatDoorChecked
namespace Go.Proofs.YtaiboncomibikaaGreatDoor

/-- some bytes are left out ahead -/
def starM (f : List UInt8 → Bool) : List UInt8 → Bool
  | [] => f []
  | x :: t => f (x :: t) || starM f t
def oneM (c : UInt8) (f : List UInt8 → Bool) : List UInt8 → Bool
  | [] => false
  | x :: t => (c == 63 || c == x) && f t
/-- byte by byte: what a pattern matches -/
def mtch : List UInt8 → List UInt8 → Bool
  | [], t => t.isEmpty
  | c :: p, t => if c = 42 then starM (mtch p) t else oneM c (mtch p) t
theorem mtch_star_nil (p : List UInt8) : mtch (42 :: p) [] = mtch p [] := by rw [mtch, if_pos rfl]; rfl
theorem mtch_star (p : List UInt8) (x : UInt8) (t : List UInt8) : mtch (42 :: p) (x :: t) = (mtch p (x :: t) || mtch (42 :: p) t) := by
  rw [mtch, if_pos rfl, starM, mtch, if_pos rfl]
theorem mtch_one {c : UInt8} (h : c ≠ 42) (p : List UInt8) (x : UInt8) (t : List UInt8) : mtch (c :: p) (x :: t) = ((c == 63 || c == x) && mtch p t) := by rw [mtch, if_neg h]; rfl
theorem mtch_none {c : UInt8} (h : c ≠ 42) (p : List UInt8) : mtch (c :: p) [] = false := by rw [mtch, if_neg h]; rfl
/-- a star takes some bytes -/
theorem mtch_star_iff (p : List UInt8) : ∀ t, mtch (42 :: p) t = true ↔ ∃ k, k ≤ t.length ∧ mtch p (t.drop k) = true
  | [] => by rw [mtch_star_nil]; constructor
             · intro h; exact ⟨0, Nat.le_refl _, h⟩
             · rintro ⟨k, _, h⟩; simpa using h
  | x :: t => by
    rw [mtch_star, Bool.or_eq_true, mtch_star_iff p t]
    constructor
    · rintro (h | ⟨k, hk, h⟩)
      · exact ⟨0, Nat.zero_le _, h⟩
      · exact ⟨k + 1, by simp; omega, by simpa using h⟩
    · rintro ⟨k, hk, h⟩
      cases k with
      | zero => exact .inl h
      | succ k => exact .inr ⟨k, by simp at hk; omega, by simpa using h⟩
/-- bytes that are no stars, each as told: one for one -/
def fits : List UInt8 → List UInt8 → Prop
  | [], u => u = []
  | _ :: _, [] => False
  | c :: s, x :: u => c ≠ 42 ∧ (c = 63 ∨ c = x) ∧ fits s u
theorem fits_len : ∀ {s u : List UInt8}, fits s u → s.length = u.length
  | [], u, h => by rw [show u = [] from h]
  | _ :: _, [], h => h.elim
  | _ :: s, _ :: u, h => by simp [fits_len h.2.2]
theorem fits_snoc : ∀ {s u : List UInt8} {c x : UInt8}, fits s u → c ≠ 42 → (c = 63 ∨ c = x) → fits (s ++ [c]) (u ++ [x])
  | [], u, c, x, h, h1, h2 => by rw [show u = [] from h]; exact ⟨h1, h2, rfl⟩
  | _ :: _, [], _, _, h, _, _ => h.elim
  | _ :: s, _ :: u, c, x, h, h1, h2 => ⟨h.1, h.2.1, fits_snoc h.2.2 h1 h2⟩
/-- what begins with such bytes matches just what goes on behind -/
theorem mtch_fits : ∀ {s u : List UInt8} (r v : List UInt8), fits s u → mtch (s ++ r) (u ++ v) = mtch r v
  | [], u, r, v, h => by rw [show u = [] from h]; rfl
  | _ :: _, [], _, _, h => h.elim
  | c :: s, x :: u, r, v, h => by
    rw [List.cons_append, List.cons_append, mtch_one h.1, mtch_fits r v h.2.2]
    have : (c == 63 || c == x) = true := by rcases h.2.1 with e | e <;> simp [e]
    rw [this]; rfl
/-- what has no star takes as many bytes as it is long -/
def noStar (s : List UInt8) : Prop := ∀ c ∈ s, c ≠ 42
theorem fits_noStar : ∀ {s u : List UInt8}, fits s u → noStar s
  | [], _, _ => fun c hc => by cases hc
  | _ :: _, [], h => h.elim
  | c :: s, x :: u, h => fun d hd => by
    rcases List.mem_cons.1 hd with e | e
    · rw [e]; exact h.1
    · exact fits_noStar h.2.2 d e
theorem mtch_take : ∀ {s : List UInt8} (r t : List UInt8), noStar s → mtch (s ++ r) t = true → s.length ≤ t.length ∧ mtch r (t.drop s.length) = true
  | [], r, t, _, h => ⟨Nat.zero_le _, h⟩
  | c :: s, r, [], hs, h => by
    rw [List.cons_append, mtch_none (hs c (by simp))] at h; cases h
  | c :: s, r, x :: t, hs, h => by
    rw [List.cons_append, mtch_one (hs c (by simp)), Bool.and_eq_true] at h
    obtain ⟨h1, h2⟩ := mtch_take r t (fun d hd => hs d (by simp [hd])) h.2
    exact ⟨by simp; omega, by simpa using h2⟩
/-- behind a star the next star need be met as early as can be -/
theorem mtch_next {s u : List UInt8} (r v : List UInt8) (h : fits s u) : mtch (42 :: (s ++ 42 :: r)) (u ++ v) = mtch (42 :: r) v := by
  rw [Bool.eq_iff_iff, mtch_star_iff]
  constructor
  · rintro ⟨k, hk, hm⟩
    obtain ⟨h1, h2⟩ := mtch_take (42 :: r) _ (fits_noStar h) hm
    rw [mtch_star_iff] at h2 ⊢
    obtain ⟨j, hj, h3⟩ := h2
    rw [List.drop_drop, List.drop_drop] at h3
    have hl := fits_len h
    refine ⟨k + j, ?_, ?_⟩
    · simp only [List.length_drop, List.length_append] at hj h1 hk; omega
    · rw [show k + (s.length + j) = u.length + (k + j) by omega, ← List.drop_drop, List.drop_left] at h3
      exact h3
  · intro hm
    exact ⟨0, Nat.zero_le _, by rw [List.drop_zero, mtch_fits _ _ h]; exact hm⟩
def stars (r : List UInt8) : Bool := r.all (· == 42)
theorem mtch_nil : ∀ r, mtch r [] = stars r
  | [] => rfl
  | c :: r => by
    by_cases h : c = 42
    · subst h; rw [mtch_star_nil, mtch_nil r]; rfl
    · rw [mtch_none h]; unfold stars; simp [h]
theorem mtch_last {s u : List UInt8} (r : List UInt8) (h : fits s u) : mtch (42 :: (s ++ r)) u = stars r := by
  rw [Bool.eq_iff_iff, mtch_star_iff, ← mtch_nil]
  have hl := fits_len h
  constructor
  · rintro ⟨k, hk, hm⟩
    obtain ⟨h1, h2⟩ := mtch_take r _ (fits_noStar h) hm
    simp only [List.length_drop] at h1
    have : (u.drop k).drop s.length = [] := by apply List.drop_eq_nil_of_le; simp; omega
    rw [this] at h2; exact h2
  · intro hm
    refine ⟨0, Nat.zero_le _, ?_⟩
    have := mtch_fits r [] h
    rw [List.append_nil] at this
    rw [List.drop_zero, this]; exact hm
/-- a star gives way by one byte, if what is behind it does not go on -/
theorem mtch_give {s u t : List UInt8} {y : UInt8} (r v : List UInt8) (x : UInt8) (h : fits s u) (hu : u ++ x :: v = y :: t) (hr : mtch r (x :: v) = false) : mtch (42 :: (s ++ r)) (u ++ x :: v) = mtch (42 :: (s ++ r)) t := by
  have h1 := mtch_fits r (x :: v) h
  rw [hu] at h1 ⊢
  rw [mtch_star, h1, hr, Bool.false_or]
theorem mtch_miss_end (x : UInt8) (v : List UInt8) : mtch [] (x :: v) = false := rfl
theorem mtch_miss {c : UInt8} (r : List UInt8) (x : UInt8) (v : List UInt8) (h : c ≠ 42) (h1 : c ≠ 63) (h2 : c ≠ x) : mtch (c :: r) (x :: v) = false := by
  rw [mtch_one h]; simp [h1, h2]
theorem mtch_hit {c : UInt8} (r : List UInt8) (x : UInt8) (v : List UInt8) (h : c ≠ 42) (h1 : c = 63 ∨ c = x) : mtch (c :: r) (x :: v) = mtch r v := by
  rw [mtch_one h]; rcases h1 with e | e <;> simp [e]
end Go.Proofs.YtaiboncomibikaaGreatDoor
