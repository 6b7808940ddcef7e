/- ListPop at every list: the model's and the program's. -/
import Derived.Test.YtnofhdcaihkoeaaPopI
import Derived.Test.YtnofhdcaihkoeaaPopS
import Derived.Test.YtnofhdcaihkoeaaOwn
namespace Go.Proofs.Ytnofhdcaihkoeaa
open Go.RowKit

def popBB (l : List ByteArray) : Bool := okB l && decide (0 < l.length)
def popXX (l : List ByteArray) (front : Bool) : ByteArray := if popBB l = true then popT l front else ByteArray.empty
def popRR (l : List ByteArray) (front : Bool) : List ByteArray := if popBB l = true then popL l front else []
theorem popRR_len (l : List ByteArray) (front : Bool) (h : l.length ≤ 1048576) : (popRR l front).length ≤ 1048576 := by
  unfold popRR popL; split
  · split <;> simp <;> omega
  · simp
theorem pop_bad_of {l : List ByteArray} (h : popBB l = false) : okB l = false ∨ l.length = 0 := by
  unfold popBB at h; rw [Bool.and_eq_false_iff] at h; rcases h with h | h
  · exact .inl h
  · right; simp at h; simp [h]

theorem specPop_all (v : Value) (l : List ByteArray) (front : Bool) (w : World) (hr : Reads w v l) (hlen : l.length ≤ 1048576) :
    Calls Try.prog 20 #[v, .bool front] w fun e w' => ∃ u, e = .returned (.tuple #[u, .string (popXX l front), .bool (popBB l)]) ∧ Own w' w.heap.size w'.heap.size u (popRR l front) ∧ Below w.heap.size w w' := by
  cases hb : popBB l with
  | false =>
    unfold popXX popRR; rw [hb]
    exact (specPop_bad v l front w hr hlen (pop_bad_of hb)).mono fun _ _ ⟨u, h, ho, hB⟩ => ⟨u, h, own_of ho, hB⟩
  | true =>
    have hb' := hb
    unfold popBB at hb'; rw [Bool.and_eq_true] at hb'
    unfold popXX popRR; rw [hb]
    exact (specPop_ok v l front w hr hb'.1 (by simpa using hb'.2)).mono fun _ _ ⟨u, h, ho, hB⟩ => ⟨u, h, own_of ho, hB⟩
theorem implPop_all (v : Value) (l : List ByteArray) (front : Bool) (w : World) (hr : Reads w v l) (hlen : l.length ≤ 1048576) :
    Calls Try.prog 21 #[v, .bool front] w fun e w' => ∃ u, e = .returned (.tuple #[u, .string (popXX l front), .bool (popBB l)]) ∧ Own w' w.heap.size w'.heap.size u (popRR l front) ∧ Below w.heap.size w w' := by
  cases hb : popBB l with
  | false =>
    unfold popXX popRR; rw [hb]
    by_cases hok : okB l = false
    · exact (implPop_bad v l front w hr hlen hok).mono fun _ _ ⟨u, h, ho, hB⟩ => ⟨u, h, own_of ho, hB⟩
    · have h0 : l = [] := List.length_eq_zero_iff.1 (by rcases pop_bad_of hb with h | h; (exact absurd h hok); exact h)
      subst h0
      exact (implPop_none v front w hr).mono fun _ _ ⟨u, h, ho, hB⟩ => ⟨u, h, own_of ho, hB⟩
  | true =>
    have hb' := hb
    unfold popBB at hb'; rw [Bool.and_eq_true] at hb'
    unfold popXX popRR; rw [hb]
    exact (implPop_ok v l front w hr hb'.1 (by simpa using hb'.2)).mono fun _ _ ⟨u, h, ho, hB⟩ => ⟨u, h, own_of ho, hB⟩

end Go.Proofs.Ytnofhdcaihkoeaa
