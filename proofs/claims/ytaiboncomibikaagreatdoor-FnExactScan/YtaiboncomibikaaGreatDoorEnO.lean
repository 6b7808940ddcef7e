/- A base among the arguments, opened. -/
import Derived.Test.YtaiboncomibikaaGreatDoorEnE
import Derived.Test.YtaiboncomibikaaGreatDoorEnJ
namespace Go.Proofs.YtaiboncomibikaaGreatDoor
open Go.ChangeShapes Go.WideShapes Go.RowKit
set_option linter.unusedVariables false

instance : Inhabited Row := ⟨rowZ⟩
section
variable {H : Type} {enc : TypeId × Value → H} {W : World} {base : Nat} {held : Bool}
set_option maxRecDepth 100000 in
theorem es_open {fuel : Nat} {cs : List Value} {x : DataW H × List MemPlace} {a : Option Addr} {n c : Nat} (hcs : cs = [.slice a n c])
    (h : DataW.trod enc Tryz.prog W base (fun _ => true) held fuel 22 cs = some x) :
    ∃ l, EsReads W (.slice a n c) l ∧ (∀ x ∈ l, EnFit x.e) ∧ l.length ≤ maxLen := by
  have h7 : Tryz.prog.cellsOf 53 = 7 := by kernel_rfl
  rcases Deep.open_slice Tryz.underlying22 h with ⟨h0, _⟩ | ⟨ad, len, cap, m, q, D, Pl, h0, _, hlc, hcm, hm, _, hx⟩
  · rw [hcs] at h0
    simp only [List.cons.injEq, Value.slice.injEq, and_true] at h0
    obtain ⟨rfl, rfl, rfl⟩ := h0
    exact ⟨[], ⟨.inl ⟨rfl, _, _, rfl, by simp⟩, (fun x hx => by cases hx)⟩, (fun x hx => by cases hx), by simp⟩
  · rw [hcs] at h0
    simp only [List.cons.injEq, Value.slice.injEq, and_true] at h0
    obtain ⟨rfl, rfl, rfl⟩ := h0
    have hnm : n ≤ m := by rw [hm]; split <;> omega
    have each : ∀ i, i < n → ∃ r : Row, RowIn W r ∧ EnFit r.e ∧ ∀ j u, (rowC r)[j]? = some u → W.cell? ((ad.add (i * 7)).add j) = some u := by
      intro i hi
      obtain ⟨cs', h1, h2⟩ := hx i (by omega)
      rw [h7] at h1
      obtain ⟨e, vl, vs, vf, hcs', hr, hf⟩ := en_cells h2
      obtain ⟨al, cl, as_, cs_, af, cf, rfl, rfl, rfl⟩ := enReads_shape hr
      obtain ⟨_, hl, hc⟩ := World.cells?_some h1
      refine ⟨⟨e, al, cl, as_, cs_, af, cf⟩, hr, hf, fun j u hu => ?_⟩
      have hj : j < 7 := (List.getElem?_eq_some_iff.1 hu).1
      rw [hc j hj, hcs']; exact hu
    obtain ⟨f, hf⟩ := Deep.choose_lt each
    refine ⟨(List.range n).map f, ⟨?_, ?_⟩, ?_, by simp; unfold maxLen at *; omega⟩
    · by_cases h0 : n = 0
      · subst h0; exact .inl ⟨by simp, _, _, rfl, by simp⟩
      · obtain ⟨b, off, spot⟩ := ad
        have hc := (hf 0 (by omega)).2.2 0 _ rfl
        have hspot : spot = none := by simpa [Addr.add] using World.cell?_spot hc
        subst hspot
        have hc' : W.cell? ⟨b, off, none⟩ = some (.string (f 0).e.key) := by simpa [Addr.add] using hc
        refine .inr ⟨by simp; omega, b, off, c, by simp, World.block_lt_of_cell? W _ hc', by simp; omega, hcm, fun k y hk => ?_⟩
        rw [List.getElem?_map, Option.map_eq_some_iff] at hk
        obtain ⟨k', hk', rfl⟩ := hk
        obtain ⟨hkn, rfl⟩ : k < n ∧ k = k' := by
          obtain ⟨h1, h2⟩ := List.getElem?_eq_some_iff.1 hk'
          rw [List.getElem_range] at h2
          exact ⟨by simpa using h1, h2⟩
        intro j u hu
        have := (hf k hkn).2.2 j u hu
        rwa [Addr.add_mid, Addr.add_mid] at this
    · intro x hx'
      rw [List.mem_map] at hx'
      obtain ⟨i, hi, rfl⟩ := hx'
      exact (hf i (List.mem_range.1 hi)).1
    · intro x hx'
      rw [List.mem_map] at hx'
      obtain ⟨i, hi, rfl⟩ := hx'
      exact (hf i (List.mem_range.1 hi)).2.1
set_option maxRecDepth 100000 in
/-- one base among the arguments, opened -/
theorem bs_open1 {r : Reach} {b0 : Nat} {v : Value} {d : DataW H} {p : List MemPlace} (hv : Value.okWide Tryz.prog W r b0 24 v) (h : DataW.Trod enc Tryz.prog W base (fun _ => true) held 24 v d p) :
    ∃ (n : Int) (u : Value) (l : List Row), v = bsV n u ∧ EsReads W u l ∧ (∀ x ∈ l, EnFit x.e) ∧ l.length ≤ maxLen ∧ (Lit.int .i64 n).wf = true := by
  obtain ⟨v0, v1, y0, y1, n, rfl, _, _, h0, h1⟩ := Go.Joins.open_agg2 Tryz.underlying24 (by kernel_rfl) (by kernel_rfl) hv h
  obtain ⟨z, hz, _, hw⟩ := DataW.trod_int Tryz.underlying3 h0
  obtain ⟨p4, l4, q4, e4⟩ := Go.Joins.slice_form Tryz.underlying22 h1
  simp only [List.cons.injEq, and_true] at hz e4
  subst hz e4
  obtain ⟨l, h2, h3, h4⟩ := es_open rfl h1
  exact ⟨z, _, l, rfl, h2, h3, h4, hw⟩
end
end Go.Proofs.YtaiboncomibikaaGreatDoor
