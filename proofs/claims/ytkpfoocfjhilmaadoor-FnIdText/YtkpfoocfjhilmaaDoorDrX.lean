/- Draws of texts and numbers, for seats without marks: a text that is drawn does not begin with the letter n. -/
import Derived.Test.YtkpfoocfjhilmaaDoorRx
import Derived.Test.YtkpfoocfjhilmaaDoorDec
import Derived.Deep.AppendLies
import Derived.Maps.AppendAt
namespace Go.Proofs.YtkpfoocfjhilmaaDoor
open Go.RowKit

/-- all bytes of t are bytes of s -/
def fromB (s t : ByteArray) : Prop := ∀ c ∈ t.data.toList, c ∈ s.data.toList
theorem fromB_nil (s : ByteArray) : fromB s ByteArray.empty := fun c hc => by cases hc
theorem fromB_app {s a b : ByteArray} (ha : fromB s a) (hb : fromB s b) : fromB s (a ++ b) := by
  intro c hc
  rw [show (a ++ b).data.toList = a.data.toList ++ b.data.toList by simp, List.mem_append] at hc
  rcases hc with h | h
  · exact ha c h
  · exact hb c h
/-- a text does not begin with the letter n -/
def notN (s : ByteArray) : Prop := s.data.toList.head? ≠ some 110
theorem twice (S k : Nat) : S * k = (S + S) * (k / 2) + S * (k % 2) := by
  have h := Nat.div_add_mod k 2
  conv => lhs; rw [← h]
  rw [Nat.mul_add, ← Nat.mul_assoc, Nat.mul_comm S 2, Nat.two_mul]
def words (t : ByteArray) : List ByteArray := [⟨#[]⟩, ⟨#[97]⟩, ⟨#[98]⟩, ⟨#[99]⟩, ⟨#[53]⟩, ⟨#[45, 51]⟩, ⟨#[104, 101, 108, 108, 111]⟩, ⟨#[13, 10]⟩, ⟨#[255]⟩, t, ⟨#[57, 57, 57, 57, 57, 57, 57, 57, 57]⟩]
theorem words_short {t : ByteArray} (ht : t.size ≤ 41) : ∀ s ∈ words t, s.size ≤ 41 := by
  intro s hs
  simp only [words, List.mem_cons, List.not_mem_nil, or_false] at hs
  rcases hs with h | h | h | h | h | h | h | h | h | h | h
  all_goals subst h
  all_goals first | exact ht | decide
theorem words_notN {t : ByteArray} (ht : fromB ⟨#[120]⟩ t) : ∀ s ∈ words t, notN s := by
  intro s hs
  simp only [words, List.mem_cons, List.not_mem_nil, or_false] at hs
  rcases hs with h | h | h | h | h | h | h | h | h | h | h
  all_goals subst h
  all_goals first | (unfold notN; decide) | skip
  unfold notN
  intro e
  have := ht 110 (List.mem_of_mem_head? e)
  simp at this
set_option maxHeartbeats 2000000 in
theorem one_any (r p : Nat) (v : Value) (zs : List Int) (l : List Int) (g cap base : Nat) (w : World) (h : RdAt w r v zs p) (hp : p ≤ 100000) (ho : w.ownsRow base 3 1 (.slice (some ⟨g, 0, none⟩) l.length cap) l.length (l.map (Value.int .i64))) (hr : r < base) (h0 : 0 < l.length) (hl : l.length ≤ 1000) :
    Calls Tryd.prog 25 #[.pointer (some ⟨r, 0, none⟩), .slice (some ⟨g, 0, none⟩) l.length cap] w fun e w' => ∃ s, e = .returned (.int .i64 s) ∧ s ∈ l ∧ RdAt w' r v zs (p + 1) ∧ w.grownBy w' (some r) := by
  have hg := (ho.lt g rfl).1
  go_enter Tryd.func25, Tryd.ntmps25
  go_wp2_with fail
  refine (pick_any r p v zs _ _ h hp (by omega) (by omega)).mono ?_
  rintro e w1 ⟨x, rfl, hx0, hx1, hR1, hg1⟩
  obtain ⟨k, rfl⟩ := Int.eq_ofNat_of_zero_le hx0
  have hk : k < l.length := by omega
  have ho1 := ho.kept hg1 (.inr (by simp [Value.ownBlock]; omega))
  have hcell : w1.cell? ⟨g, k, none⟩ = some (.int .i64 (l[k])) := by
    rw [World.ownsRow.cellAt ho1 k (by omega), List.getElem?_map, List.getElem?_eq_getElem hk]; rfl
  go_wp2_with fail
  go_ret
  exact ⟨_, rfl, List.getElem_mem hk, hR1, hg1⟩
def placesL : List Int := [0, 1, 2, -1, -2, 5, -9, 100, 1000000000, 1000000001]
end Go.Proofs.YtkpfoocfjhilmaaDoor
