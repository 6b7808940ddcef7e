/- The machine's run is what the model reads, order by order: plain facts. -/
import Derived.Test.YtfoflnolmlgnfaaDoorOrdQ
namespace Go.Proofs.YtfoflnolmlgnfaaDoor
open Go.RowKit
open num

theorem st_ext {c d : UInt8} (h : c ≠ d) : ((c.toNat : Int) == (d.toNat : Int)) = false := by
  rw [beq_eq_false_iff_ne]; intro e; exact h (UInt8.toNat_inj.1 (by omega))
theorem st_is (c : UInt8) (k : Nat) (hk : k < 256) : ((c.toNat : Int) == (k : Int)) = decide (c = UInt8.ofNat k) := by
  by_cases h : c = UInt8.ofNat k
  · subst h; simp; omega
  · rw [decide_eq_false h, beq_eq_false_iff_ne]; intro e; apply h
    apply UInt8.toNat_inj.1
    have : c.toNat = k := by omega
    rw [this]; simp; omega
theorem st10 (c : UInt8) : ((c.toNat : Int) == 10) = decide (c = 10) := st_is c 10 (by omega)
theorem st13 (c : UInt8) : ((c.toNat : Int) == 13) = decide (c = 13) := st_is c 13 (by omega)
theorem st36 (c : UInt8) : ((c.toNat : Int) == 36) = decide (c = 36) := st_is c 36 (by omega)
theorem st42 (c : UInt8) : ((c.toNat : Int) == 42) = decide (c = 42) := st_is c 42 (by omega)
theorem whole_lt {m : Int} {k : Nat} (h : (k : Int) < m) : wholeB m k = false := by
  unfold wholeB; rw [Bool.and_eq_false_iff]; right; rw [beq_eq_false_iff_ne]; omega
theorem whole_0 {k : Nat} : wholeB 0 k = false := by unfold wholeB; simp

/-- what is wrong with a word of k bytes -/
def wbad (t : List UInt8) (k : Nat) : Prop := (k < t.length ∧ t.getD k 0 ≠ 13) ∨ (k + 1 < t.length ∧ t.getD (k + 1) 0 ≠ 10)
instance (t : List UInt8) (k : Nat) : Decidable (wbad t k) := by unfold wbad; infer_instance

theorem mach_cons (σ : MS) (c : UInt8) (t : List UInt8) (p : Nat) : mach σ (c :: t) p = if stepB σ c = true then (if wholeB (stepS σ c).m (stepS σ c).ws.length = true then ((stepS σ c).ws, (p : Int) + 1) else mach (stepS σ c) t (p + 1)) else ([], -1) := rfl
theorem mach_nil (σ : MS) (p : Nat) : mach σ [] p = ([], 0) := rfl

/-- what comes behind a word -/
def wnext (w : ByteArray) (ws : List ByteArray) (m n : Int) (t : List UInt8) (p : Nat) : List ByteArray × Int :=
  if wholeB m (ws.length + 1) = true then (ws ++ [w], (p : Int)) else mach ⟨76, [], ws ++ [w], m, n⟩ t p

theorem word_run (ws : List ByteArray) (m n : Int) (hm : (ws.length : Int) < m) : ∀ (r : Nat) (b t : List UInt8) (p : Nat), ((b.length + r : Nat) : Int) = n →
    mach ⟨nextW b.length n, b, ws, m, n⟩ t p = if wbad t r then ([], -1) else if t.length < r + 2 then ([], 0) else wnext ⟨(b ++ t.take r).toArray⟩ ws m n (t.drop (r + 2)) (p + r + 2)
  | 0, b, t, p, h => by
    have hw := whole_lt hm
    have e : nextW b.length n = 97 := by unfold nextW; rw [if_neg (by omega)]
    rw [e]
    cases t with
    | nil => rw [mach_nil, if_neg (by unfold wbad; simp), if_pos (by simp)]
    | cons c t =>
      rw [mach_cons]
      have e1 : stepB ⟨97, b, ws, m, n⟩ c = decide (c = 13) := by rw [← st13]; rfl
      have e2 : stepS ⟨97, b, ws, m, n⟩ c = ⟨98, b, ws, m, n⟩ := rfl
      rw [e1, e2]
      by_cases hc : c = 13
      · rw [if_pos (by simpa using hc), if_neg (by simp [hw])]
        cases t with
        | nil => rw [mach_nil, if_neg (by unfold wbad; simp [hc]), if_pos (by simp)]
        | cons c2 t2 =>
          rw [mach_cons]
          have e3 : stepB ⟨98, b, ws, m, n⟩ c2 = decide (c2 = 10) := by rw [← st10]; rfl
          have e4 : stepS ⟨98, b, ws, m, n⟩ c2 = ⟨76, [], ws ++ [⟨b.toArray⟩], m, n⟩ := rfl
          rw [e3, e4]
          by_cases h10 : c2 = 10
          · have hnb : ¬ wbad (c :: c2 :: t2) 0 := by unfold wbad; simp [hc, h10]
            have hnl : ¬ (c :: c2 :: t2).length < 0 + 2 := by simp
            rw [if_pos (by simpa using h10), if_neg hnb, if_neg hnl]
            simp only [List.length_append, List.length_cons, List.length_nil, List.take_zero, List.append_nil]
            unfold wnext
            have e5 : ((p + 1 : Nat) : Int) + 1 = ((p + 0 + 2 : Nat) : Int) := by omega
            rw [e5]; rfl
          · rw [if_neg (by simpa using h10), if_pos (by unfold wbad; right; simpa using h10)]
      · rw [if_neg (by simpa using hc), if_pos (by unfold wbad; left; simpa using hc)]
  | r + 1, b, t, p, h => by
    have hw := whole_lt hm
    have e : nextW b.length n = 96 := by unfold nextW; rw [if_pos (by omega)]
    rw [e]
    cases t with
    | nil => rw [mach_nil, if_neg (by unfold wbad; simp), if_pos (by simp)]
    | cons c t =>
      rw [mach_cons]
      have e1 : stepB ⟨96, b, ws, m, n⟩ c = true := rfl
      have e2 : stepS ⟨96, b, ws, m, n⟩ c = ⟨nextW (b ++ [c]).length n, b ++ [c], ws, m, n⟩ := rfl
      rw [e1, e2, if_pos rfl, if_neg (by simp [hw]), word_run ws m n hm r (b ++ [c]) t (p + 1) (by simp; omega)]
      have hq : wbad (c :: t) (r + 1) ↔ wbad t r := by unfold wbad; simp
      have e3 : p + 1 + r + 2 = p + (r + 1) + 2 := by omega
      have e4 : (b ++ [c]) ++ t.take r = b ++ (c :: t).take (r + 1) := by simp
      rw [e3, e4]
      by_cases hb : wbad t r
      · rw [if_pos hb, if_pos (hq.2 hb)]
      · rw [if_neg hb, if_neg (fun h => hb (hq.1 h))]
        simp

/-- what the model reads, so many words on -/
def ordL : Nat → List ByteArray → List UInt8 → Nat → List ByteArray × Int
  | 0, ws, _, p => (ws, (p : Int))
  | _ + 1, _, [], _ => ([], 0)
  | f + 1, ws, c :: t, p =>
    if c ≠ 36 ∨ hbad (t.take (digs 3 t)) t (digs 3 t) 0 40 then ([], -1)
    else if t.length ≤ digs 3 t + 1 then ([], 0)
    else if wbad (t.drop (digs 3 t + 2)) (figs (t.take (digs 3 t))).toNat then ([], -1)
    else if (t.drop (digs 3 t + 2)).length < (figs (t.take (digs 3 t))).toNat + 2 then ([], 0)
    else ordL f (ws ++ [⟨((t.drop (digs 3 t + 2)).take (figs (t.take (digs 3 t))).toNat).toArray⟩]) ((t.drop (digs 3 t + 2)).drop ((figs (t.take (digs 3 t))).toNat + 2)) (p + 1 + (digs 3 t) + 2 + (figs (t.take (digs 3 t))).toNat + 2)
def ordR : List UInt8 → List ByteArray × Int
  | [] => ([], 0)
  | c :: t =>
    if c ≠ 42 ∨ hbad (t.take (digs 3 t)) t (digs 3 t) 1 8 then ([], -1)
    else if t.length ≤ digs 3 t + 1 then ([], 0)
    else ordL (figs (t.take (digs 3 t))).toNat [] (t.drop (digs 3 t + 2)) (digs 3 t + 3)

theorem num_in {d : List UInt8} {t : List UInt8} {j : Nat} {lo hi : Int} (h : ¬ hbad d t j lo hi) (hl : ¬ t.length ≤ j + 1) : lo ≤ figs d ∧ figs d ≤ hi := by
  unfold hbad at h
  have h1 : ¬ (d = [] ∨ t.getD j 0 ≠ 13) := fun hq => h (.inl ⟨by omega, hq⟩)
  have h2 : inB (figs d) lo hi = true := by
    cases hq : inB (figs d) lo hi with
    | true => rfl
    | false => exact absurd (.inr (.inr ⟨fun e => h1 (.inl e), hq⟩)) h
  simpa [inB] using h2
theorem intV_figs {d : List UInt8} (hd : d.all isDig = true) (h : 0 ≤ figs d) (h' : figs d ≤ 40) : intV d = figs d := by
  have hs := digit_signed hd
  have hb : intB d = true := by rw [plain_B (.inl hs)]; simp [inB]; omega
  rw [plain_V (.inl hs), if_pos hb]

theorem size_run (ws : List ByteArray) (m n : Int) (hm : (ws.length : Int) < m) (t : List UInt8) (p : Nat) :
    mach ⟨80, [], ws, m, n⟩ t p = if hbad (t.take (digs 3 t)) t (digs 3 t) 0 40 then ([], -1) else if t.length ≤ digs 3 t + 1 then ([], 0)
      else mach ⟨nextW 0 (intV (t.take (digs 3 t))), [], ws, m, intV (t.take (digs 3 t))⟩ (t.drop (digs 3 t + 2)) (p + digs 3 t + 2) := by
  have hw := whole_lt hm
  have := head_run (fun b t p => mach ⟨80, b, ws, m, n⟩ t p) (fun b t p => mach ⟨86, [], ws, m, intV b⟩ t p)
    (fun b t p => mach ⟨nextW 0 (intV b), [], ws, m, intV b⟩ t p) ([], -1) ([], 0) 0 40 (by omega) (by omega) (by omega)
    (fun b p => rfl)
    (fun b t p => by
      rw [mach_cons]
      have e1 : stepB ⟨80, b, ws, m, n⟩ 13 = intB b := rfl
      have e2 : stepS ⟨80, b, ws, m, n⟩ 13 = ⟨86, [], ws, m, intV b⟩ := rfl
      rw [e1, e2]; simp only [hw]; rfl)
    (fun b c t p hc => by
      show mach _ _ _ = _
      rw [mach_cons]
      have e1 : stepB ⟨80, b, ws, m, n⟩ c = figB (b ++ [c]) 0 40 := by simp [stepB, hc]
      have e2 : stepS ⟨80, b, ws, m, n⟩ c = ⟨80, b ++ [c], ws, m, n⟩ := by simp [stepS, hc]
      rw [e1, e2]; simp only [hw]; rfl)
    (fun b p => rfl)
    (fun b c t p => by
      show mach _ _ _ = _
      rw [mach_cons]
      have e1 : stepB ⟨86, [], ws, m, intV b⟩ c = decide (c = 10) := by rw [← st10]; rfl
      have e2 : stepS ⟨86, [], ws, m, intV b⟩ c = ⟨nextW 0 (intV b), [], ws, m, intV b⟩ := rfl
      rw [e1, e2]; simp only [hw, decide_eq_true_eq]; rfl)
    3 [] t p (.inl rfl) rfl
  simpa using this
theorem ord_run (m : Int) : ∀ (f : Nat) (ws : List ByteArray) (n : Int) (l : List UInt8) (p : Nat), (ws.length : Int) + (f + 1 : Nat) = m →
    mach ⟨76, [], ws, m, n⟩ l p = ordL (f + 1) ws l p
  | f, ws, n, [], p, h => rfl
  | f, ws, n, c :: t, p, h => by
    have hm : (ws.length : Int) < m := by omega
    have hw := whole_lt hm
    rw [mach_cons]
    have e1 : stepB ⟨76, [], ws, m, n⟩ c = decide (c = 36) := by rw [← st36]; rfl
    have e2 : stepS ⟨76, [], ws, m, n⟩ c = ⟨80, [], ws, m, n⟩ := rfl
    rw [e1, e2, ordL]
    simp only [hw]
    by_cases hc : c = 36
    · rw [if_pos (by simpa using hc), if_neg (by decide), size_run ws m n hm]
      by_cases hb : hbad (t.take (digs 3 t)) t (digs 3 t) 0 40
      · rw [if_pos hb, if_pos (.inr hb)]
      · have hnb : ¬ (c ≠ 36 ∨ hbad (t.take (digs 3 t)) t (digs 3 t) 0 40) := by intro h; rcases h with h | h; exact h hc; exact hb h
        rw [if_neg hb, if_neg hnb]
        by_cases hl : t.length ≤ digs 3 t + 1
        · rw [if_pos hl, if_pos hl]
        · have hin := num_in hb hl
          have hk := intV_figs (digs_all 3 t) hin.1 hin.2
          rw [if_neg hl, if_neg hl, hk]
          generalize hv : figs (t.take (digs 3 t)) = v at *
          have := word_run ws m v hm v.toNat [] (t.drop (digs 3 t + 2)) (p + 1 + digs 3 t + 2) (by simp; omega)
          simp only [List.length_nil, List.nil_append] at this
          rw [this]
          by_cases hb2 : wbad (t.drop (digs 3 t + 2)) v.toNat
          · rw [if_pos hb2, if_pos hb2]
          · rw [if_neg hb2, if_neg hb2]
            by_cases hl2 : (t.drop (digs 3 t + 2)).length < v.toNat + 2
            · rw [if_pos hl2, if_pos hl2]
            · rw [if_neg hl2, if_neg hl2]
              unfold wnext
              cases f with
              | zero =>
                have hq : wholeB m (ws.length + 1) = true := by unfold wholeB; simp; omega
                rw [if_pos hq]; rfl
              | succ f =>
                have hq : wholeB m (ws.length + 1) = false := whole_lt (by omega)
                rw [if_neg (by rw [hq]; decide), ord_run m f _ v _ _ (by simp; omega)]
    · rw [if_neg (by simpa using hc), if_pos (.inl hc)]
theorem whole_nil (m : Int) : wholeB m 0 = false := by
  unfold wholeB; by_cases h : 0 < m
  · rw [Bool.and_eq_false_iff]; right; rw [beq_eq_false_iff_ne]; omega
  · simp [h]
theorem many_run (t : List UInt8) (p : Nat) :
    mach ⟨61, [], [], 0, 0⟩ t p = if hbad (t.take (digs 3 t)) t (digs 3 t) 1 8 then ([], -1) else if t.length ≤ digs 3 t + 1 then ([], 0)
      else mach ⟨76, [], [], intV (t.take (digs 3 t)), 0⟩ (t.drop (digs 3 t + 2)) (p + digs 3 t + 2) := by
  have := head_run (fun b t p => mach ⟨61, b, [], 0, 0⟩ t p) (fun b t p => mach ⟨70, [], [], intV b, 0⟩ t p)
    (fun b t p => mach ⟨76, [], [], intV b, 0⟩ t p) ([], -1) ([], 0) 1 8 (by omega) (by omega) (by omega)
    (fun b p => rfl)
    (fun b t p => by
      show mach _ _ _ = _
      rw [mach_cons]
      have e1 : stepB ⟨61, b, [], 0, 0⟩ 13 = intB b := rfl
      have e2 : stepS ⟨61, b, [], 0, 0⟩ 13 = ⟨70, [], [], intV b, 0⟩ := rfl
      rw [e1, e2]; simp only [List.length_nil, whole_nil]; rfl)
    (fun b c t p hc => by
      show mach _ _ _ = _
      rw [mach_cons]
      have e1 : stepB ⟨61, b, [], 0, 0⟩ c = figB (b ++ [c]) 1 8 := by simp [stepB, hc]
      have e2 : stepS ⟨61, b, [], 0, 0⟩ c = ⟨61, b ++ [c], [], 0, 0⟩ := by simp [stepS, hc]
      rw [e1, e2]; simp only [List.length_nil, whole_nil]; rfl)
    (fun b p => rfl)
    (fun b c t p => by
      show mach _ _ _ = _
      rw [mach_cons]
      have e1 : stepB ⟨70, [], [], intV b, 0⟩ c = decide (c = 10) := by rw [← st10]; rfl
      have e2 : stepS ⟨70, [], [], intV b, 0⟩ c = ⟨76, [], [], intV b, 0⟩ := rfl
      rw [e1, e2]; simp only [List.length_nil, whole_nil, decide_eq_true_eq]; rfl)
    3 [] t p (.inl rfl) rfl
  simpa using this
theorem mach_ord (l : List UInt8) : mach σ0 l 0 = ordR l := by
  cases l with
  | nil => rfl
  | cons c t =>
    rw [mach_cons]
    have e1 : stepB σ0 c = decide (c = 42) := by rw [← st42]; rfl
    have e2 : stepS σ0 c = ⟨61, [], [], 0, 0⟩ := rfl
    rw [e1, e2, ordR]
    simp only [List.length_nil, whole_nil]
    by_cases hc : c = 42
    · rw [if_pos (by simpa using hc), if_neg (by decide), many_run]
      by_cases hb : hbad (t.take (digs 3 t)) t (digs 3 t) 1 8
      · rw [if_pos hb, if_pos (.inr hb)]
      · have hnb : ¬ (c ≠ 42 ∨ hbad (t.take (digs 3 t)) t (digs 3 t) 1 8) := by intro h; rcases h with h | h; exact h hc; exact hb h
        rw [if_neg hb, if_neg hnb]
        by_cases hl : t.length ≤ digs 3 t + 1
        · rw [if_pos hl, if_pos hl]
        · have hin := num_in hb hl
          have hk := intV_figs (digs_all 3 t) (by omega) (by omega)
          rw [if_neg hl, if_neg hl, hk]
          generalize hv : figs (t.take (digs 3 t)) = v at *
          have := ord_run v (v.toNat - 1) [] 0 (t.drop (digs 3 t + 2)) (0 + 1 + digs 3 t + 2) (by simp; omega)
          rw [this]
          have e3 : v.toNat - 1 + 1 = v.toNat := by omega
          have e4 : 0 + 1 + digs 3 t + 2 = digs 3 t + 3 := by omega
          rw [e3, e4]
    · rw [if_neg (by simpa using hc), if_pos (.inl hc)]
end Go.Proofs.YtfoflnolmlgnfaaDoor
