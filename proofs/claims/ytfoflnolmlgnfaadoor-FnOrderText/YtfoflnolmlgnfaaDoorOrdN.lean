/- What holds of every state that the machine comes to. -/
import Derived.Test.YtfoflnolmlgnfaaDoorOrdM
namespace Go.Proofs.YtfoflnolmlgnfaaDoor
open Go.RowKit
open num

theorem fits_len {l : List UInt8} (h : fits l = true) : l.length ≤ 10 := by
  rw [fits_in] at h
  unfold figs at h
  split at h
  · next hq => exact hq.2.2.1
  · exact absurd h (by decide)
theorem intB_len {l : List UInt8} (h : intB l = true) : l.length ≤ 11 := by
  unfold intB at h
  split at h
  · have := fits_len (by simp at h; exact h.1); simp at this; omega
  · have := fits_len h; omega
theorem figB_len {l : List UInt8} {lo hi : Int} (h : figB l lo hi = true) : l.length ≤ 11 := by
  simp only [figB, Bool.and_eq_true] at h; exact intB_len h.1.1
theorem figB_in {l : List UInt8} {lo hi : Int} (h : figB l lo hi = true) : lo ≤ intV l ∧ intV l ≤ hi := by
  simp only [figB, Bool.and_eq_true, decide_eq_true_eq] at h; exact ⟨h.1.2, h.2⟩
theorem intB_nil : intB [] = false := by decide

def inv (σ : MS) : Prop :=
  (σ.ph = 35 ∧ σ.buf = [] ∧ σ.ws = [] ∧ σ.m = 0) ∨
  (σ.ph = 61 ∧ (σ.buf = [] ∨ figB σ.buf 1 8 = true) ∧ σ.ws = [] ∧ σ.m = 0) ∨
  (((σ.ws.length : Int) < σ.m ∧ σ.m ≤ 8) ∧
    ((σ.ph = 70 ∧ σ.buf = []) ∨ (σ.ph = 76 ∧ σ.buf = []) ∨
     (σ.ph = 80 ∧ (σ.buf = [] ∨ figB σ.buf 0 40 = true)) ∨
     (σ.ph = 86 ∧ σ.buf = [] ∧ 0 ≤ σ.n ∧ σ.n ≤ 40) ∨
     (σ.ph = 96 ∧ (σ.buf.length : Int) < σ.n ∧ σ.n ≤ 40) ∨
     (σ.ph = 97 ∧ (σ.buf.length : Int) = σ.n ∧ σ.n ≤ 40) ∨
     (σ.ph = 98 ∧ (σ.buf.length : Int) = σ.n ∧ σ.n ≤ 40)))
theorem inv_start : inv σ0 := .inl ⟨rfl, rfl, rfl, rfl⟩
theorem inv_ph {σ : MS} (h : inv σ) : phOk σ.ph := by
  unfold inv at h; unfold phOk
  rcases h with h | h | ⟨_, h | h | h | h | h | h | h⟩ <;> simp [h.1]
theorem inv_buf {σ : MS} (h : inv σ) : σ.buf.length ≤ 1000 := by
  unfold inv at h
  rcases h with h | h | ⟨_, h | h | h | h | h | h | h⟩
  · simp [h.2.1]
  · rcases h.2.1 with e | e
    · simp [e]
    · have := figB_len e; omega
  · simp [h.2]
  · simp [h.2]
  · rcases h.2 with e | e
    · simp [e]
    · have := figB_len e; omega
  · simp [h.2.1]
  · omega
  · omega
  · omega
theorem inv_ws {σ : MS} (h : inv σ) : σ.ws.length ≤ 1000 := by
  unfold inv at h
  rcases h with h | h | ⟨h, _⟩
  · simp [h.2.2.1]
  · simp [h.2.2.1]
  · omega
theorem inv_step (σ : MS) (h : inv σ) (c : UInt8) (hb : stepB σ c = true) (hw : wholeB (stepS σ c).m (stepS σ c).ws.length = false) : inv (stepS σ c) := by
  obtain ⟨ph, buf, ws, m, n⟩ := σ
  unfold inv at h
  simp only at h
  rcases h with ⟨rfl, rfl, rfl, rfl⟩ | ⟨rfl, h, rfl, rfl⟩ | ⟨hm, ⟨rfl, rfl⟩ | ⟨rfl, rfl⟩ | ⟨rfl, h⟩ | ⟨rfl, rfl, h⟩ | ⟨rfl, h⟩ | ⟨rfl, h⟩ | ⟨rfl, h⟩⟩
  · exact .inr (.inl ⟨rfl, .inl rfl, rfl, rfl⟩)
  · by_cases hc : c = 13
    · subst hc
      have hi : intB buf = true := by simpa [stepB] using hb
      have hf : figB buf 1 8 = true := by
        rcases h with rfl | h
        · rw [intB_nil] at hi; exact absurd hi (by decide)
        · exact h
      have := figB_in hf
      refine .inr (.inr ⟨⟨?_, ?_⟩, .inl ⟨rfl, rfl⟩⟩)
      · show ((([] : List ByteArray).length : Nat) : Int) < intV buf
        simp; omega
      · exact this.2
    · have e : stepS ⟨61, buf, [], 0, n⟩ c = ⟨61, buf ++ [c], [], 0, n⟩ := by simp [stepS, hc]
      rw [e]
      exact .inr (.inl ⟨rfl, .inr (by simpa [stepB, hc] using hb), rfl, rfl⟩)
  · exact .inr (.inr ⟨hm, .inr (.inl ⟨rfl, rfl⟩)⟩)
  · exact .inr (.inr ⟨hm, .inr (.inr (.inl ⟨rfl, .inl rfl⟩))⟩)
  · by_cases hc : c = 13
    · subst hc
      have hi : intB buf = true := by simpa [stepB] using hb
      have hf : figB buf 0 40 = true := by
        rcases h with rfl | h
        · rw [intB_nil] at hi; exact absurd hi (by decide)
        · exact h
      exact .inr (.inr ⟨hm, .inr (.inr (.inr (.inl ⟨rfl, rfl, figB_in hf⟩)))⟩)
    · have e : stepS ⟨80, buf, ws, m, n⟩ c = ⟨80, buf ++ [c], ws, m, n⟩ := by simp [stepS, hc]
      rw [e]
      exact .inr (.inr ⟨hm, .inr (.inr (.inl ⟨rfl, .inr (by simpa [stepB, hc] using hb)⟩))⟩)
  · have e : stepS ⟨86, [], ws, m, n⟩ c = ⟨nextW 0 n, [], ws, m, n⟩ := rfl
    rw [e]
    refine .inr (.inr ⟨hm, ?_⟩)
    simp only [nextW]
    split
    · next hq => simp at hq; exact .inr (.inr (.inr (.inr (.inl ⟨rfl, by simp; omega, h.2⟩))))
    · next hq => simp at hq; exact .inr (.inr (.inr (.inr (.inr (.inl ⟨rfl, by simp; omega, h.2⟩)))))
  · have e : stepS ⟨96, buf, ws, m, n⟩ c = ⟨nextW (buf ++ [c]).length n, buf ++ [c], ws, m, n⟩ := rfl
    rw [e]
    refine .inr (.inr ⟨hm, ?_⟩)
    simp only [nextW]
    split
    · next hq => simp at hq; exact .inr (.inr (.inr (.inr (.inl ⟨rfl, by simp; omega, h.2⟩))))
    · next hq => simp at hq; exact .inr (.inr (.inr (.inr (.inr (.inl ⟨rfl, by simp; omega, h.2⟩)))))
  · exact .inr (.inr ⟨hm, .inr (.inr (.inr (.inr (.inr (.inr ⟨rfl, h⟩)))))⟩)
  · have e : stepS ⟨98, buf, ws, m, n⟩ c = ⟨76, [], ws ++ [⟨buf.toArray⟩], m, n⟩ := rfl
    rw [e] at hw ⊢
    refine .inr (.inr ⟨⟨?_, hm.2⟩, .inr (.inl ⟨rfl, rfl⟩)⟩)
    simp [wholeB] at hw ⊢
    omega
end Go.Proofs.YtfoflnolmlgnfaaDoor
