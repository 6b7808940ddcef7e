/- The model's l2Put: a text among others, ascending, once. -/
import Derived.Test.YtdaahcenplepjaaSetU
import Derived.Test.YtdaahcenplepjaaAq
import Derived.Test.YtdaahcenplepjaaTk
namespace Go.Proofs.Ytdaahcenplepjaa
open Go.RowKit

def tx (s : ByteArray) : List Value := [.string s]
theorem tx_len (s : ByteArray) : (tx s).length = 1 := rfl
theorem tx_one (s : ByteArray) : ∀ u ∈ tx s, u.oneCell' = true := by
  intro u hu; unfold tx at hu; simp only [List.mem_cons, List.not_mem_nil, or_false] at hu; rw [hu]; rfl
theorem tx_flat : ∀ (l : List ByteArray), l.flatMap tx = l.map Value.string
  | [] => rfl
  | s :: l => by rw [List.flatMap_cons, tx_flat l]; rfl
theorem reads_R {w : World} {v : Value} {l : List ByteArray} (h : Reads w v l) : ReadsR tx 1 w v l := by
  rcases h with h | ⟨h0, b, off, cap, hv, hlt, h1, h2, hc⟩
  · exact .inl h
  · refine .inr ⟨h0, b, off, cap, hv, hlt, h1, h2, fun k x hk j u hu => ?_⟩
    obtain ⟨hk', rfl⟩ := List.getElem?_eq_some_iff.1 hk
    match j, hu with
    | 0, hu => cases hu; rw [Nat.mul_one, Nat.add_zero, hc k hk', at_lt hk']
    | j + 1, hu => simp [tx] at hu
theorem owns_R {w : World} {base : Nat} {v : Value} {l : List ByteArray} : Owns w base v l ↔ OwnsR tx 1 9 w base v l := by
  unfold Owns OwnsR; rw [tx_flat]

/-- how many texts ahead are less than s -/
def posM (l : List ByteArray) (s : ByteArray) : Nat := l.findIdx (fun y => !ltT y s)
def lowM (l : List ByteArray) (s : ByteArray) (k : Nat) : Prop := ∀ j, j < k → ltT (at_ l j) s = true
theorem lowM_step {l : List ByteArray} {s : ByteArray} {k : Nat} (h : lowM l s k) (h2 : ltT (at_ l k) s = true) : lowM l s (k + 1) := by
  intro j hj
  by_cases e : j = k
  · rw [e]; exact h2
  · exact h j (by omega)
theorem putM_take (s : ByteArray) : ∀ (l : List ByteArray) (k : Nat), k ≤ l.length → lowM l s k → putM l s = l.take k ++ putM (l.drop k) s
  | l, 0, _, _ => by simp
  | [], k + 1, h, _ => by simp at h
  | x :: l, k + 1, h, hl => by
    have h0 := hl 0 (by omega)
    have hx : ltT x s = true := h0
    rw [putM, if_pos hx, List.take_succ_cons, List.drop_succ_cons, List.cons_append, putM_take s l k (by simpa using h) (fun j hj => hl (j + 1) (by omega))]
theorem putM_new {l : List ByteArray} {s : ByteArray} {k : Nat} (hk : k < l.length) (hl : lowM l s k) (h1 : ltT (at_ l k) s = false) (h2 : at_ l k ≠ s) : putM l s = l.take k ++ s :: l.drop k := by
  rw [putM_take s l k (by omega) hl, List.drop_eq_getElem_cons hk, ← at_lt hk, putM, if_neg (by rw [h1]; simp), if_neg h2]
theorem putM_there {l : List ByteArray} {s : ByteArray} {k : Nat} (hk : k < l.length) (hl : lowM l s k) (h1 : ltT (at_ l k) s = false) (h2 : at_ l k = s) : putM l s = l := by
  rw [putM_take s l k (by omega) hl, List.drop_eq_getElem_cons hk, ← at_lt hk, putM, if_neg (by rw [h1]; simp), if_pos h2, at_lt hk, ← List.drop_eq_getElem_cons hk, List.take_append_drop]
theorem putM_end {l : List ByteArray} {s : ByteArray} (hl : lowM l s l.length) : putM l s = l ++ [s] := by
  rw [putM_take s l l.length (Nat.le_refl _) hl]; simp [putM]
end Go.Proofs.Ytdaahcenplepjaa
