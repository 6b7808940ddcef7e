/- The reader of orders as a machine over bytes: what each step does to its state. -/
import Derived.Test.YtfoflnolmlgnfaaDoorStepD
namespace Go.Proofs.YtfoflnolmlgnfaaDoor
open Go.RowKit

structure MS where
  ph : Nat
  buf : List UInt8
  ws : List ByteArray
  m : Int
  n : Int
/-- what a step answers -/
def stepB (σ : MS) (c : UInt8) : Bool :=
  if σ.ph = 35 then ((c.toNat : Int) == 42)
  else if σ.ph = 61 then (if c = 13 then intB σ.buf else figB (σ.buf ++ [c]) 1 8)
  else if σ.ph = 70 then ((c.toNat : Int) == 10)
  else if σ.ph = 76 then ((c.toNat : Int) == 36)
  else if σ.ph = 80 then (if c = 13 then intB σ.buf else figB (σ.buf ++ [c]) 0 40)
  else if σ.ph = 86 then ((c.toNat : Int) == 10)
  else if σ.ph = 96 then true
  else if σ.ph = 97 then ((c.toNat : Int) == 13)
  else ((c.toNat : Int) == 10)
/-- what it leaves -/
def stepS (σ : MS) (c : UInt8) : MS :=
  if σ.ph = 35 then { σ with ph := 61 }
  else if σ.ph = 61 then (if c = 13 then { σ with ph := 70, buf := [], m := intV σ.buf } else { σ with buf := σ.buf ++ [c] })
  else if σ.ph = 70 then { σ with ph := 76 }
  else if σ.ph = 76 then { σ with ph := 80 }
  else if σ.ph = 80 then (if c = 13 then { σ with ph := 86, buf := [], n := intV σ.buf } else { σ with buf := σ.buf ++ [c] })
  else if σ.ph = 86 then { σ with ph := nextW σ.buf.length σ.n }
  else if σ.ph = 96 then { σ with ph := nextW (σ.buf ++ [c]).length σ.n, buf := σ.buf ++ [c] }
  else if σ.ph = 97 then { σ with ph := 98 }
  else { σ with ph := 76, buf := [], ws := σ.ws ++ [⟨σ.buf.toArray⟩] }
def phOk (k : Nat) : Prop := k = 35 ∨ k = 61 ∨ k = 70 ∨ k = 76 ∨ k = 80 ∨ k = 86 ∨ k = 96 ∨ k = 97 ∨ k = 98
/-- block r holds the reader in a state -/
def RS (w : World) (B r : Nat) (σ : MS) : Prop := ∃ p wv, selfP r p ∧ EB w B r p σ.buf (stp σ.ph r) wv (.int .i64 σ.m) (.int .i64 σ.n) ∧ Owns w B wv σ.ws
theorem c13 {c : UInt8} (h : c = 13) : (c.toNat : Int) = 13 := by subst h; rfl
theorem n13 {c : UInt8} (h : c ≠ 13) : ((c.toNat : Int) != 13) = true := by
  simp only [bne_iff_ne, ne_eq]
  intro e; apply h; apply UInt8.toNat_inj.1; show c.toNat = 13; omega
theorem self_own (r : Nat) : selfP r (.pointer (some ⟨r, 0, none⟩)) := .inr rfl
theorem self_none (r : Nat) : selfP r (.pointer none) := .inl rfl
theorem step_all (B r : Nat) (σ : MS) (c : UInt8) (w : World) (hk : phOk σ.ph) (h : RS w B r σ) (hl : σ.buf.length ≤ 1000) (hw : σ.ws.length ≤ 1000) (hBw : B ≤ w.heap.size) :
    Calls Tryd.prog σ.ph #[.pointer (some ⟨r, 0, none⟩), .int .u8 (c.toNat : Int)] w fun e w' => e = .returned (.bool (stepB σ c)) ∧ RS w' B r (stepS σ c) ∧ Below B w w' := by
  obtain ⟨p, wv, hp, hE, ho⟩ := h
  obtain ⟨_, bv, hbk, _⟩ := id hE
  obtain ⟨ph, buf, ws, m, n⟩ := σ
  simp only at hk hE ho hl hw hbk ⊢
  rcases hk with rfl | rfl | rfl | rfl | rfl | rfl | rfl | rfl | rfl
  · exact (star_any B r p buf _ wv _ _ c w hE).mono fun e w' ⟨h1, h2, h3, h4⟩ => ⟨h1, ⟨p, wv, hp, h2, owns_others ho h4 hbk⟩, h3⟩
  · by_cases hc : c = 13
    · have e1 : (c.toNat : Int) = 13 := c13 hc
      rw [e1]
      refine (many_end B r p buf _ wv _ _ w hE hl).mono fun e w' ⟨h1, h2, h3, h4⟩ => ⟨?_, ⟨_, wv, self_none r, ?_, ?_⟩, h3⟩
      · rw [h1]; simp [stepB, hc]
      · simpa [stepS, hc] using h2
      · simpa [stepS, hc] using owns_others ho h4 hbk
    · refine (many_fig B r p buf _ wv _ _ c w hp hE hl hBw (n13 hc)).mono fun e w' ⟨h1, h2, h3, h4⟩ => ⟨?_, ⟨_, wv, self_own r, ?_, ?_⟩, h3⟩
      · rw [h1]; simp [stepB, hc]
      · simpa [stepS, hc] using h2
      · simpa [stepS, hc] using owns_others ho h4 hbk
  · exact (manyEnd_any B r p buf _ wv _ _ c w hE).mono fun e w' ⟨h1, h2, h3, h4⟩ => ⟨h1, ⟨p, wv, hp, h2, owns_others ho h4 hbk⟩, h3⟩
  · exact (dollar_any B r p buf _ wv _ _ c w hE).mono fun e w' ⟨h1, h2, h3, h4⟩ => ⟨h1, ⟨p, wv, hp, h2, owns_others ho h4 hbk⟩, h3⟩
  · by_cases hc : c = 13
    · have e1 : (c.toNat : Int) = 13 := c13 hc
      rw [e1]
      refine (size_end B r p buf _ wv _ _ w hE hl).mono fun e w' ⟨h1, h2, h3, h4⟩ => ⟨?_, ⟨_, wv, self_none r, ?_, ?_⟩, h3⟩
      · rw [h1]; simp [stepB, hc]
      · simpa [stepS, hc] using h2
      · simpa [stepS, hc] using owns_others ho h4 hbk
    · refine (size_fig B r p buf _ wv _ _ c w hp hE hl hBw (n13 hc)).mono fun e w' ⟨h1, h2, h3, h4⟩ => ⟨?_, ⟨_, wv, self_own r, ?_, ?_⟩, h3⟩
      · rw [h1]; simp [stepB, hc]
      · simpa [stepS, hc] using h2
      · simpa [stepS, hc] using owns_others ho h4 hbk
  · exact (sizeEnd_any B r p buf _ wv _ _ c w hE).mono fun e w' ⟨h1, h2, h3, h4⟩ => ⟨h1, ⟨p, wv, hp, h2, owns_others ho h4 hbk⟩, h3⟩
  · exact (wordByte_any B r p buf _ wv _ _ c w hp hE hl hBw).mono fun e w' ⟨h1, h2, h3, h4⟩ => ⟨h1, ⟨_, wv, self_own r, h2, owns_others ho h4 hbk⟩, h3⟩
  · exact (wordReturn_any B r p buf _ wv _ _ c w hE).mono fun e w' ⟨h1, h2, h3, h4⟩ => ⟨h1, ⟨p, wv, hp, h2, owns_others ho h4 hbk⟩, h3⟩
  · exact (wordEnd_any B r p buf _ wv _ _ ws c w hE ho hw hBw).mono fun e w' ⟨wv', h1, h2, h3, h4⟩ => ⟨h1, ⟨_, wv', self_none r, h2, h3⟩, h4⟩
end Go.Proofs.YtfoflnolmlgnfaaDoor
