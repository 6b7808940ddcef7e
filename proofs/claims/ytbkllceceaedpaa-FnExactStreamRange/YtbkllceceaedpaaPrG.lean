/- A slice of Pair among the arguments, opened; copies, marks and comparisons told by the stretch of blocks that they lie in. -/
import Derived.Test.YtbkllceceaedpaaPrB
import Derived.Deep.SlicePairs
import Derived.Lib.SmallJoins
import Derived.ProofKit
namespace Go.Proofs.Ytbkllceceaedpaa
open Go.ChangeShapes Go.WideShapes Go.RowKit

def prOfV : Value → ByteArray
  | .string s => s
  | _ => ByteArray.empty
section
variable {H : Type} {enc : TypeId × Value → H} {W : World} {base : Nat} {spare : Nat → Bool} {held : Bool}
theorem pr_open {fuel : Nat} {cs : List Value} {x : DataW H × List MemPlace} {a : Option Addr} {n c : Nat} (hcs : cs = [.slice a n c])
    (h : DataW.trod enc Try.prog W base spare held fuel 98 cs = some x) :
    ∃ l, PrReads W (.slice a n c) l ∧ prFit l ∧ l.length ≤ maxLen := by
  rcases Deep.open_slice_pairs Try.underlying98 Try.underlying142 (by kernel_rfl) rfl rfl (by kernel_rfl) (by kernel_rfl) h with ⟨h0, _⟩ | ⟨ad, len, cap, m, q, V0, V1, D0, D1, P0, P1, h0, _, hlc, hcm, hm, _, hx⟩
  · rw [hcs] at h0
    simp only [List.cons.injEq, Value.slice.injEq, and_true] at h0
    obtain ⟨rfl, rfl, rfl⟩ := h0
    exact ⟨[], .inl ⟨rfl, _, _, rfl, by simp⟩, by unfold prFit; simp, by simp⟩
  · rw [hcs] at h0
    simp only [List.cons.injEq, Value.slice.injEq, and_true] at h0
    obtain ⟨rfl, rfl, rfl⟩ := h0
    have hnm : n ≤ m := by rw [hm]; split <;> omega
    have each : ∀ i, i < n → V0 i = .string (prOfV (V0 i)) ∧ V1 i = .string (prOfV (V1 i)) ∧ (prOfV (V0 i)).size ≤ maxLen ∧ (prOfV (V1 i)).size ≤ maxLen := by
      intro i hi
      obtain ⟨_, _, h2, h3⟩ := hx i (by omega)
      obtain ⟨s, hs, _, hw⟩ := DataW.trod_string Try.underlying9 h2
      obtain ⟨z, hz, _, hw2⟩ := DataW.trod_string Try.underlying9 h3
      simp only [List.cons.injEq, and_true] at hs hz
      rw [hs, hz]; exact ⟨rfl, rfl, hw, hw2⟩
    refine ⟨(List.range n).map fun i => (prOfV (V0 i), prOfV (V1 i)), ?_, ?_, by simp; unfold maxLen at *; omega⟩
    · by_cases h0 : n = 0
      · subst h0; exact .inl ⟨by simp, _, _, rfl, by simp⟩
      · obtain ⟨b, off, spot⟩ := ad
        have hc := (hx 0 (by omega)).1
        have hspot : spot = none := by simpa [Addr.add] using World.cell?_spot hc
        subst hspot
        refine .inr ⟨by simp; omega, b, off, c, by simp, World.block_lt_of_cell? W _ hc, by simp; omega, hcm, fun k y hk => ?_⟩
        rw [List.getElem?_map, Option.map_eq_some_iff] at hk
        obtain ⟨k', hk', rfl⟩ := hk
        obtain ⟨hkn, rfl⟩ : k < n ∧ k = k' := by
          obtain ⟨h1, h2⟩ := List.getElem?_eq_some_iff.1 hk'
          rw [List.getElem_range] at h2
          exact ⟨by simpa using h1, h2⟩
        obtain ⟨c0, c1, _, _⟩ := hx k (by omega)
        have e := each k hkn
        rw [e.1, Addr.add_mid] at c0
        rw [e.2.1, Addr.add_mid] at c1
        intro j u hu
        match j, hu with
        | 0, hu => simp only [prC] at hu; cases hu; exact c0
        | 1, hu => simp only [prC] at hu; cases hu; exact c1
        | j + 2, hu => simp [prC] at hu
    · intro x hx'
      rw [List.mem_map] at hx'
      obtain ⟨i, hi, rfl⟩ := hx'
      exact (each i (List.mem_range.1 hi)).2.2
set_option maxRecDepth 100000 in
/-- one Pair among the arguments, opened -/
theorem pr_open1 {r : Reach} {b0 : Nat} {v : Value} {d : DataW H} {p : List MemPlace} (hv : Value.okWide Try.prog W r b0 142 v) (h : DataW.Trod enc Try.prog W base spare held 142 v d p) :
    ∃ x : (ByteArray × ByteArray), v = .agg #[.string x.1, .string x.2] ∧ prFit [x] := by
  obtain ⟨v0, v1, y0, y1, n, rfl, _, _, h0, h1⟩ := Go.Joins.open_agg2 Try.underlying142 (by kernel_rfl) (by kernel_rfl) hv h
  obtain ⟨s, hs, _, hw⟩ := DataW.trod_string Try.underlying9 h0
  obtain ⟨z, hz, _, hw2⟩ := DataW.trod_string Try.underlying9 h1
  simp only [List.cons.injEq, and_true] at hs hz
  subst hs hz
  exact ⟨(s, z), rfl, by intro x hx; simp only [List.mem_cons, List.not_mem_nil, or_false] at hx; rw [hx]; exact ⟨hw, hw2⟩⟩
end

theorem pr_szOne_le {x : (ByteArray × ByteArray)} {left : Int} (h : 0 ≤ szOne prW x left) : szOne prW x left ≤ left := by
  have := prW_pos x
  unfold szOne at h ⊢
  split at h
  · omega
  · next hn => rw [if_neg hn]; omega

abbrev PrOwn (w : World) (lo hi : Nat) (v : Value) (l : List (ByteArray × ByteArray)) : Prop := OwnR prC 2 107 w lo hi v l
theorem eqPairS_true (v u : Value) (l : List (ByteArray × ByteArray)) (w : World) (hr : PrReads w v l) (hq : PrReads w u l) (hlen : l.length ≤ 1048576) :
    Calls Try.prog 81 #[v, u] w fun e w' => e = .returned (.bool true) ∧ Below w.heap.size w w' :=
  (eqPairS_any v u l l w hr hq hlen hlen).mono fun e w' ⟨h, hb⟩ => ⟨by rw [h]; simp, hb⟩
theorem toPairS_own (v : Value) (l : List (ByteArray × ByteArray)) (w : World) (hr : PrReads w v l) (hlen : l.length ≤ 1048576) :
    Calls Try.prog 89 #[v] w fun e w' => ∃ v', e = .returned v' ∧ PrOwn w' w.heap.size w'.heap.size v' l ∧ Below w.heap.size w w' :=
  (toPairS_any v l w hr hlen).mono fun _ _ ⟨v', h, ho, hb⟩ => ⟨v', h, ownR_of ho, hb⟩
end Go.Proofs.Ytbkllceceaedpaa
