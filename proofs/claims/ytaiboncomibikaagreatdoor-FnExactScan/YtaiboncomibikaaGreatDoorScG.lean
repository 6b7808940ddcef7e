/- A slice of Score among the arguments, opened; copies, marks and comparisons told by the stretch of blocks that they lie in. -/
import Derived.Test.YtaiboncomibikaaGreatDoorScB
import Derived.Deep.SlicePairs
import Derived.Lib.SmallJoins
import Derived.ProofKit
namespace Go.Proofs.YtaiboncomibikaaGreatDoor
open Go.ChangeShapes Go.WideShapes Go.RowKit

def scOfV : Value → ByteArray
  | .string s => s
  | _ => ByteArray.empty
def scNumV : Value → Int
  | .int _ n => n
  | _ => 0
section
variable {H : Type} {enc : TypeId × Value → H} {W : World} {base : Nat} {spare : Nat → Bool} {held : Bool}
theorem sc_open {fuel : Nat} {cs : List Value} {x : DataW H × List MemPlace} {a : Option Addr} {n c : Nat} (hcs : cs = [.slice a n c])
    (h : DataW.trod enc Tryz.prog W base spare held fuel 50 cs = some x) :
    ∃ l, ScReads W (.slice a n c) l ∧ scFit l ∧ l.length ≤ maxLen := by
  rcases Deep.open_slice_pairs Tryz.underlying50 Tryz.underlying93 (by kernel_rfl) rfl rfl (by kernel_rfl) (by kernel_rfl) h with ⟨h0, _⟩ | ⟨ad, len, cap, m, q, V0, V1, D0, D1, P0, P1, h0, _, hlc, hcm, hm, _, hx⟩
  · rw [hcs] at h0
    simp only [List.cons.injEq, Value.slice.injEq, and_true] at h0
    obtain ⟨rfl, rfl, rfl⟩ := h0
    exact ⟨[], .inl ⟨rfl, _, _, rfl, by simp⟩, by unfold scFit; simp, by simp⟩
  · rw [hcs] at h0
    simp only [List.cons.injEq, Value.slice.injEq, and_true] at h0
    obtain ⟨rfl, rfl, rfl⟩ := h0
    have hnm : n ≤ m := by rw [hm]; split <;> omega
    have each : ∀ i, i < n → V0 i = .string (scOfV (V0 i)) ∧ V1 i = .int .i64 (scNumV (V1 i)) ∧ (scOfV (V0 i)).size ≤ maxLen := by
      intro i hi
      obtain ⟨_, _, h2, h3⟩ := hx i (by omega)
      obtain ⟨s, hs, _, hw⟩ := DataW.trod_string Tryz.underlying9 h2
      obtain ⟨z, hz, _, _⟩ := DataW.trod_int Tryz.underlying3 h3
      simp only [List.cons.injEq, and_true] at hs hz
      rw [hs, hz]; exact ⟨rfl, rfl, hw⟩
    refine ⟨(List.range n).map fun i => (scOfV (V0 i), scNumV (V1 i)), ?_, ?_, by simp; unfold maxLen at *; omega⟩
    · by_cases h0 : n = 0
      · subst h0; exact .inl ⟨by simp, _, _, rfl, by simp⟩
      · obtain ⟨b, off, spot⟩ := ad
        have hc := (hx 0 (by omega)).1
        have hspot : spot = none := by simpa [Addr.add] using World.cell?_spot hc
        subst hspot
        refine .inr ⟨by simp; omega, b, off, c, by simp, World.block_lt_of_cell? W _ hc, by simp; omega, hcm, fun k y hk => ?_⟩
        rw [List.getElem?_map, Option.map_eq_some_iff] at hk
        obtain ⟨k', hk', rfl⟩ := hk
        obtain ⟨hkn, rfl⟩ : k < n ∧ k = k' := by
          obtain ⟨h1, h2⟩ := List.getElem?_eq_some_iff.1 hk'
          rw [List.getElem_range] at h2
          exact ⟨by simpa using h1, h2⟩
        obtain ⟨c0, c1, _, _⟩ := hx k (by omega)
        have e := each k hkn
        rw [e.1, Addr.add_mid] at c0
        rw [e.2.1, Addr.add_mid] at c1
        intro j u hu
        match j, hu with
        | 0, hu => simp only [scC] at hu; cases hu; exact c0
        | 1, hu => simp only [scC] at hu; cases hu; exact c1
        | j + 2, hu => simp [scC] at hu
    · intro x hx'
      rw [List.mem_map] at hx'
      obtain ⟨i, hi, rfl⟩ := hx'
      exact (each i (List.mem_range.1 hi)).2.2
set_option maxRecDepth 100000 in
/-- one Score among the arguments, opened -/
theorem sc_open1 {r : Reach} {b0 : Nat} {v : Value} {d : DataW H} {p : List MemPlace} (hv : Value.okWide Tryz.prog W r b0 93 v) (h : DataW.Trod enc Tryz.prog W base spare held 93 v d p) :
    ∃ x : (ByteArray × Int), v = .agg #[.string x.1, .int .i64 x.2] ∧ scFit [x] := by
  obtain ⟨v0, v1, y0, y1, n, rfl, _, _, h0, h1⟩ := Go.Joins.open_agg2 Tryz.underlying93 (by kernel_rfl) (by kernel_rfl) hv h
  obtain ⟨s, hs, _, hw⟩ := DataW.trod_string Tryz.underlying9 h0
  obtain ⟨z, hz, _, _⟩ := DataW.trod_int Tryz.underlying3 h1
  simp only [List.cons.injEq, and_true] at hs hz
  subst hs hz
  exact ⟨(s, z), rfl, by intro x hx; simp only [List.mem_cons, List.not_mem_nil, or_false] at hx; rw [hx]; exact hw⟩
end

theorem sc_szOne_le {x : (ByteArray × Int)} {left : Int} (h : 0 ≤ szOne scW x left) : szOne scW x left ≤ left := by
  have := scW_pos x
  unfold szOne at h ⊢
  split at h
  · omega
  · next hn => rw [if_neg hn]; omega

abbrev ScOwn (w : World) (lo hi : Nat) (v : Value) (l : List (ByteArray × Int)) : Prop := OwnR scC 2 89 w lo hi v l
theorem eqScoreS_true (v u : Value) (l : List (ByteArray × Int)) (w : World) (hr : ScReads w v l) (hq : ScReads w u l) (hlen : l.length ≤ 1048576) :
    Calls Tryz.prog 57 #[v, u] w fun e w' => e = .returned (.bool true) ∧ Below w.heap.size w w' :=
  (eqScoreS_any v u l l w hr hq hlen hlen).mono fun e w' ⟨h, hb⟩ => ⟨by rw [h]; simp, hb⟩
theorem toScoreS_own (v : Value) (l : List (ByteArray × Int)) (w : World) (hr : ScReads w v l) (hlen : l.length ≤ 1048576) :
    Calls Tryz.prog 42 #[v] w fun e w' => ∃ v', e = .returned v' ∧ ScOwn w' w.heap.size w'.heap.size v' l ∧ Below w.heap.size w w' :=
  (toScoreS_any v l w hr hlen).mono fun _ _ ⟨v', h, ho, hb⟩ => ⟨v', h, ownR_of ho, hb⟩
end Go.Proofs.YtaiboncomibikaaGreatDoor
