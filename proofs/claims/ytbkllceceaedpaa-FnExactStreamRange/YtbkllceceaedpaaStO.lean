/- A stream among the arguments, opened. -/
import Derived.Test.YtbkllceceaedpaaStC
import Derived.SliceStrings
import Derived.ProofKit
import Derived.Deep.SlicePairs
import Derived.Lib.SmallJoins
namespace Go.Proofs.Ytbkllceceaedpaa
open Go.ChangeShapes Go.WideShapes Go.RowKit
set_option linter.unusedVariables false

instance : Inhabited ItRow := ⟨itZ⟩
instance : Inhabited GpRow := ⟨gpZ⟩
instance : Inhabited Wt := ⟨wtZ⟩
theorem list2s {α : Type} {cs : List α} (h : cs.length = 2) : ∃ a b, cs = [a, b] := by
  match cs, h with
  | [a, b], _ => exact ⟨a, b, rfl⟩
theorem list3s {α : Type} {cs : List α} (h : cs.length = 3) : ∃ a b c, cs = [a, b, c] := by
  match cs, h with
  | [a, b, c], _ => exact ⟨a, b, c, rfl⟩
theorem list4s {α : Type} {cs : List α} (h : cs.length = 4) : ∃ a b c d, cs = [a, b, c, d] := by
  match cs, h with
  | [a, b, c, d], _ => exact ⟨a, b, c, d, rfl⟩
theorem list5s {α : Type} {cs : List α} (h : cs.length = 5) : ∃ a b c d e, cs = [a, b, c, d, e] := by
  match cs, h with
  | [a, b, c, d, e], _ => exact ⟨a, b, c, d, e, rfl⟩
section
variable {H : Type} {enc : TypeId × Value → H} {W : World} {base : Nat} {held : Bool}
theorem k_id : Try.prog.cellsOf 23 = 2 := by kernel_rfl
theorem k_int : Try.prog.cellsOf 3 = 1 := by kernel_rfl
theorem k_str : Try.prog.cellsOf 9 = 1 := by kernel_rfl
set_option maxRecDepth 100000 in
theorem id_trod {fuel : Nat} {cs : List Value} {x : DataW H × List MemPlace} (h : DataW.trod enc Try.prog W base (fun _ => true) held fuel 23 cs = some x) :
    ∃ t n : Int, cs = [.int .i64 t, .int .i64 n] ∧ (Lit.int .i64 t).wf = true ∧ (Lit.int .i64 n).wf = true := by
  obtain ⟨xs, n, _, _, hl, hxl, hf⟩ := DataW.trod_struct Try.underlying23 h
  rw [k_id] at hl
  obtain ⟨a0, a1, rfl⟩ := list2s hl
  obtain ⟨x0, x1, rfl⟩ := list2s (cs := xs) hxl
  have g0 : DataW.trod enc Try.prog W base (fun _ => true) held n 3 [a0] = some x0 := by
    have q := hf 0 _ rfl
    simpa [k_int] using q
  have g1 : DataW.trod enc Try.prog W base (fun _ => true) held n 3 [a1] = some x1 := by
    have q := hf 1 _ rfl
    simpa [k_int] using q
  obtain ⟨z0, e0, _, w0⟩ := DataW.trod_int Try.underlying3 g0
  obtain ⟨z1, e1, _, w1⟩ := DataW.trod_int Try.underlying3 g1
  simp only [List.cons.injEq, and_true] at e0 e1
  subst e0 e1
  exact ⟨z0, z1, rfl, w0, w1⟩
set_option maxRecDepth 100000 in
theorem wt_trod {fuel : Nat} {cs : List Value} {x : DataW H × List MemPlace} (h : DataW.trod enc Try.prog W base (fun _ => true) held fuel 145 cs = some x) :
    ∃ y : Wt, cs = wtC y ∧ WtFit y := by
  obtain ⟨xs, n, _, _, hl, hxl, hf⟩ := DataW.trod_struct Try.underlying145 h
  have h5 : Try.prog.cellsOf 145 = 5 := by kernel_rfl
  rw [h5] at hl
  obtain ⟨a0, a1, a2, a3, a4, rfl⟩ := list5s hl
  obtain ⟨x0, x1, x2, x3, rfl⟩ := list4s (cs := xs) hxl
  have g0 : DataW.trod enc Try.prog W base (fun _ => true) held n 23 [a0, a1] = some x0 := by
    have q := hf 0 _ rfl
    simpa [k_id] using q
  have g1 : DataW.trod enc Try.prog W base (fun _ => true) held n 9 [a2] = some x1 := by
    have q := hf 1 _ rfl
    simpa [k_str] using q
  have g2 : DataW.trod enc Try.prog W base (fun _ => true) held n 3 [a3] = some x2 := by
    have q := hf 2 _ rfl
    simpa [k_int] using q
  have g3 : DataW.trod enc Try.prog W base (fun _ => true) held n 3 [a4] = some x3 := by
    have q := hf 3 _ rfl
    simpa [k_int] using q
  obtain ⟨t, nn, e0, w0, w1⟩ := id_trod g0
  obtain ⟨s, e1, _, w2⟩ := DataW.trod_string Try.underlying9 g1
  obtain ⟨z2, e2, _, w3⟩ := DataW.trod_int Try.underlying3 g2
  obtain ⟨z3, e3, _, w4⟩ := DataW.trod_int Try.underlying3 g3
  simp only [List.cons.injEq, and_true] at e0 e1 e2 e3
  obtain ⟨rfl, rfl⟩ := e0
  subst e1 e2 e3
  exact ⟨⟨t, nn, s, z2, z3⟩, rfl, w0, w1, w2, w3, w4⟩
/-- rows of cells behind an address -/
theorem rows_open {α : Type} [Inhabited α] {c : α → List Value} {N : Nat} (hc : ∀ x, (c x).length = N) (hN : 0 < N) {ad : Addr} {n cap : Nat} (f : Nat → α) (hn : n ≤ cap) (hcm : cap ≤ maxLen)
    (hf : ∀ i, i < n → ∀ j u, (c (f i))[j]? = some u → W.cell? ((ad.add (i * N)).add j) = some u) : ReadsR c N W (.slice (some ad) n cap) ((List.range n).map f) := by
  by_cases h0 : n = 0
  · subst h0; exact .inl ⟨by simp, _, _, rfl, by simp⟩
  · obtain ⟨b, off, spot⟩ := ad
    obtain ⟨u0, hu0⟩ : ∃ u, (c (f 0))[0]? = some u := by
      have := hc (f 0)
      exact ⟨_, List.getElem?_eq_getElem (by omega)⟩
    have hc0 := hf 0 (by omega) 0 _ hu0
    have hspot : spot = none := by simpa [Addr.add] using World.cell?_spot hc0
    subst hspot
    have hc' : W.cell? ⟨b, off, none⟩ = some u0 := by simpa [Addr.add] using hc0
    refine .inr ⟨by simp; omega, b, off, cap, by simp, World.block_lt_of_cell? W _ hc', by simp; omega, hcm, fun k y hk => ?_⟩
    rw [List.getElem?_map, Option.map_eq_some_iff] at hk
    obtain ⟨k', hk', rfl⟩ := hk
    obtain ⟨hkn, rfl⟩ : k < n ∧ k = k' := by
      obtain ⟨h1, h2⟩ := List.getElem?_eq_some_iff.1 hk'
      rw [List.getElem_range] at h2
      exact ⟨by simpa using h1, h2⟩
    intro j u hu
    have := hf k hkn j u hu
    rwa [Addr.add_mid, Addr.add_mid] at this
set_option maxRecDepth 100000 in
theorem wt_open {fuel : Nat} {cs : List Value} {x : DataW H × List MemPlace} {a : Option Addr} {n c : Nat} (hcs : cs = [.slice a n c])
    (h : DataW.trod enc Try.prog W base (fun _ => true) held fuel 102 cs = some x) :
    ∃ l, WtReads W (.slice a n c) l ∧ (∀ x ∈ l, WtFit x) ∧ l.length ≤ maxLen := by
  have h5 : Try.prog.cellsOf 145 = 5 := by kernel_rfl
  rcases Deep.open_slice Try.underlying102 h with ⟨h0, _⟩ | ⟨ad, len, cap, m, q, D, Pl, h0, _, hlc, hcm, hm, _, hx⟩
  · rw [hcs] at h0
    simp only [List.cons.injEq, Value.slice.injEq, and_true] at h0
    obtain ⟨rfl, rfl, rfl⟩ := h0
    exact ⟨[], .inl ⟨rfl, _, _, rfl, by simp⟩, (fun x hx => by cases hx), by simp⟩
  · rw [hcs] at h0
    simp only [List.cons.injEq, Value.slice.injEq, and_true] at h0
    obtain ⟨rfl, rfl, rfl⟩ := h0
    have hnm : n ≤ m := by rw [hm]; split <;> omega
    have each : ∀ i, i < n → ∃ r : Wt, WtFit r ∧ ∀ j u, (wtC r)[j]? = some u → W.cell? ((ad.add (i * 5)).add j) = some u := by
      intro i hi
      obtain ⟨cs', h1, h2⟩ := hx i (by omega)
      rw [h5] at h1
      obtain ⟨y, hcs', hf⟩ := wt_trod h2
      obtain ⟨_, hl, hc⟩ := World.cells?_some h1
      refine ⟨y, hf, fun j u hu => ?_⟩
      have hj : j < 5 := (List.getElem?_eq_some_iff.1 hu).1
      rw [hc j hj, hcs']; exact hu
    obtain ⟨f, hf⟩ := Deep.choose_lt each
    refine ⟨(List.range n).map f, rows_open wtC_len (by omega) f hlc hcm (fun i hi => (hf i hi).2), ?_, by simp; unfold maxLen at *; omega⟩
    intro x hx'
    rw [List.mem_map] at hx'
    obtain ⟨i, hi, rfl⟩ := hx'
    exact (hf i (List.mem_range.1 hi)).1
set_option maxRecDepth 100000 in
theorem it_trod {fuel : Nat} {cs : List Value} {x : DataW H × List MemPlace} (h : DataW.trod enc Try.prog W base (fun _ => true) held fuel 100 cs = some x) :
    ∃ r : ItRow, cs = itC r ∧ ItIn W r ∧ ItFit r.e := by
  obtain ⟨xs, n, _, _, hl, hxl, hf⟩ := DataW.trod_struct Try.underlying100 h
  have h3 : Try.prog.cellsOf 100 = 3 := by kernel_rfl
  have k3 : Try.prog.cellsOf 98 = 1 := by kernel_rfl
  rw [h3] at hl
  obtain ⟨a0, a1, a2, rfl⟩ := list3s hl
  obtain ⟨x0, x1, rfl⟩ := list2s (cs := xs) hxl
  have g0 : DataW.trod enc Try.prog W base (fun _ => true) held n 23 [a0, a1] = some x0 := by
    have q := hf 0 _ rfl
    simpa [k_id] using q
  have g1 : DataW.trod enc Try.prog W base (fun _ => true) held n 98 [a2] = some x1 := by
    have q := hf 1 _ rfl
    simpa [k3] using q
  obtain ⟨t, nn, e0, w0, w1⟩ := id_trod g0
  obtain ⟨p, l, q, e1⟩ := Go.Joins.slice_form Try.underlying98 g1
  simp only [List.cons.injEq, and_true] at e0 e1
  obtain ⟨rfl, rfl⟩ := e0
  subst e1
  obtain ⟨F, hF, hF2, hF3⟩ := pr_open rfl g1
  obtain ⟨ao, co, hs⟩ := readsR_shape hF
  cases hs
  exact ⟨⟨⟨t, nn, F⟩, p, q⟩, rfl, hF, ⟨w0, w1, hF2, hF3⟩⟩
set_option maxRecDepth 100000 in
theorem gp_trod {fuel : Nat} {cs : List Value} {x : DataW H × List MemPlace} (h : DataW.trod enc Try.prog W base (fun _ => true) held fuel 104 cs = some x) :
    ∃ r : GpRow, cs = gpC r ∧ GpIn W r ∧ GpFit r.e := by
  obtain ⟨xs, n, _, _, hl, hxl, hf⟩ := DataW.trod_struct Try.underlying104 h
  have h4 : Try.prog.cellsOf 104 = 4 := by kernel_rfl
  have k3 : Try.prog.cellsOf 102 = 1 := by kernel_rfl
  rw [h4] at hl
  obtain ⟨a0, a1, a2, a3, rfl⟩ := list4s hl
  obtain ⟨x0, x1, x2, rfl⟩ := list3s (cs := xs) hxl
  have g0 : DataW.trod enc Try.prog W base (fun _ => true) held n 9 [a0] = some x0 := by
    have q := hf 0 _ rfl
    simpa [k_str] using q
  have g1 : DataW.trod enc Try.prog W base (fun _ => true) held n 23 [a1, a2] = some x1 := by
    have q := hf 1 _ rfl
    simpa [k_id] using q
  have g2 : DataW.trod enc Try.prog W base (fun _ => true) held n 102 [a3] = some x2 := by
    have q := hf 2 _ rfl
    simpa [k3] using q
  obtain ⟨s, e0, _, w0⟩ := DataW.trod_string Try.underlying9 g0
  obtain ⟨t, nn, e1, w1, w2⟩ := id_trod g1
  obtain ⟨p, l, q, e2⟩ := Go.Joins.slice_form Try.underlying102 g2
  simp only [List.cons.injEq, and_true] at e0 e1 e2
  obtain ⟨rfl, rfl⟩ := e1
  subst e0 e2
  obtain ⟨F, hF, hF2, hF3⟩ := wt_open rfl g2
  obtain ⟨ao, co, hs⟩ := readsR_shape hF
  cases hs
  exact ⟨⟨⟨s, t, nn, F⟩, p, q⟩, rfl, hF, ⟨w0, w1, w2, hF2, hF3⟩⟩
set_option maxRecDepth 100000 in
theorem its_open {fuel : Nat} {cs : List Value} {x : DataW H × List MemPlace} {a : Option Addr} {n c : Nat} (hcs : cs = [.slice a n c])
    (h : DataW.trod enc Try.prog W base (fun _ => true) held fuel 24 cs = some x) :
    ∃ l, ItsReads W (.slice a n c) l ∧ (∀ x ∈ l, ItFit x.e) ∧ l.length ≤ maxLen := by
  have h5 : Try.prog.cellsOf 100 = 3 := by kernel_rfl
  rcases Deep.open_slice Try.underlying24 h with ⟨h0, _⟩ | ⟨ad, len, cap, m, q, D, Pl, h0, _, hlc, hcm, hm, _, hx⟩
  · rw [hcs] at h0
    simp only [List.cons.injEq, Value.slice.injEq, and_true] at h0
    obtain ⟨rfl, rfl, rfl⟩ := h0
    exact ⟨[], ⟨.inl ⟨rfl, _, _, rfl, by simp⟩, (fun x hx => by cases hx)⟩, (fun x hx => by cases hx), by simp⟩
  · rw [hcs] at h0
    simp only [List.cons.injEq, Value.slice.injEq, and_true] at h0
    obtain ⟨rfl, rfl, rfl⟩ := h0
    have hnm : n ≤ m := by rw [hm]; split <;> omega
    have each : ∀ i, i < n → ∃ r : ItRow, ItIn W r ∧ ItFit r.e ∧ ∀ j u, (itC r)[j]? = some u → W.cell? ((ad.add (i * 3)).add j) = some u := by
      intro i hi
      obtain ⟨cs', h1, h2⟩ := hx i (by omega)
      rw [h5] at h1
      obtain ⟨y, hcs', hin, hf⟩ := it_trod h2
      obtain ⟨_, hl, hc⟩ := World.cells?_some h1
      refine ⟨y, hin, hf, fun j u hu => ?_⟩
      have hj : j < 3 := (List.getElem?_eq_some_iff.1 hu).1
      rw [hc j hj, hcs']; exact hu
    obtain ⟨f, hf⟩ := Deep.choose_lt each
    refine ⟨(List.range n).map f, ⟨rows_open itC_len (by omega) f hlc hcm (fun i hi => (hf i hi).2.2), fun x hx' => ?_⟩, fun x hx' => ?_, by simp; unfold maxLen at *; omega⟩
    · rw [List.mem_map] at hx'
      obtain ⟨i, hi, rfl⟩ := hx'
      exact (hf i (List.mem_range.1 hi)).1
    · rw [List.mem_map] at hx'
      obtain ⟨i, hi, rfl⟩ := hx'
      exact (hf i (List.mem_range.1 hi)).2.1
set_option maxRecDepth 100000 in
theorem gps_open {fuel : Nat} {cs : List Value} {x : DataW H × List MemPlace} {a : Option Addr} {n c : Nat} (hcs : cs = [.slice a n c])
    (h : DataW.trod enc Try.prog W base (fun _ => true) held fuel 25 cs = some x) :
    ∃ l, GpsReads W (.slice a n c) l ∧ (∀ x ∈ l, GpFit x.e) ∧ l.length ≤ maxLen := by
  have h5 : Try.prog.cellsOf 104 = 4 := by kernel_rfl
  rcases Deep.open_slice Try.underlying25 h with ⟨h0, _⟩ | ⟨ad, len, cap, m, q, D, Pl, h0, _, hlc, hcm, hm, _, hx⟩
  · rw [hcs] at h0
    simp only [List.cons.injEq, Value.slice.injEq, and_true] at h0
    obtain ⟨rfl, rfl, rfl⟩ := h0
    exact ⟨[], ⟨.inl ⟨rfl, _, _, rfl, by simp⟩, (fun x hx => by cases hx)⟩, (fun x hx => by cases hx), by simp⟩
  · rw [hcs] at h0
    simp only [List.cons.injEq, Value.slice.injEq, and_true] at h0
    obtain ⟨rfl, rfl, rfl⟩ := h0
    have hnm : n ≤ m := by rw [hm]; split <;> omega
    have each : ∀ i, i < n → ∃ r : GpRow, GpIn W r ∧ GpFit r.e ∧ ∀ j u, (gpC r)[j]? = some u → W.cell? ((ad.add (i * 4)).add j) = some u := by
      intro i hi
      obtain ⟨cs', h1, h2⟩ := hx i (by omega)
      rw [h5] at h1
      obtain ⟨y, hcs', hin, hf⟩ := gp_trod h2
      obtain ⟨_, hl, hc⟩ := World.cells?_some h1
      refine ⟨y, hin, hf, fun j u hu => ?_⟩
      have hj : j < 4 := (List.getElem?_eq_some_iff.1 hu).1
      rw [hc j hj, hcs']; exact hu
    obtain ⟨f, hf⟩ := Deep.choose_lt each
    refine ⟨(List.range n).map f, ⟨rows_open gpC_len (by omega) f hlc hcm (fun i hi => (hf i hi).2.2), fun x hx' => ?_⟩, fun x hx' => ?_, by simp; unfold maxLen at *; omega⟩
    · rw [List.mem_map] at hx'
      obtain ⟨i, hi, rfl⟩ := hx'
      exact (hf i (List.mem_range.1 hi)).1
    · rw [List.mem_map] at hx'
      obtain ⟨i, hi, rfl⟩ := hx'
      exact (hf i (List.mem_range.1 hi)).2.1
set_option maxRecDepth 100000 in
/-- one stream among the arguments, opened -/
theorem st_open1 {r : Reach} {b0 : Nat} {v : Value} {d : DataW H} {p : List MemPlace} (hv : Value.okWide Try.prog W r b0 27 v) (h : DataW.Trod enc Try.prog W base (fun _ => true) held 27 v d p) :
    ∃ (t n : Int) (vi vg : Value) (li : List ItRow) (lg : List GpRow), v = stV t n vi vg ∧ StReads W vi vg li lg ∧ StFit li lg ∧ (Lit.int .i64 t).wf = true ∧ (Lit.int .i64 n).wf = true := by
  obtain ⟨cs, rfl, _⟩ := okWide_struct Try.underlying27 hv
  obtain ⟨fuel, hf0⟩ := h
  have hq : DataW.trod enc Try.prog W base (fun _ => true) held fuel 27 cs.toList = some (d, p) := by simpa [Value.cells] using hf0
  obtain ⟨xs, n, _, _, hl, hxl, hf⟩ := DataW.trod_struct Try.underlying27 hq
  have h4 : Try.prog.cellsOf 27 = 4 := by kernel_rfl
  have k1 : Try.prog.cellsOf 24 = 1 := by kernel_rfl
  have k2 : Try.prog.cellsOf 25 = 1 := by kernel_rfl
  rw [h4] at hl
  obtain ⟨a0, a1, a2, a3, hcs⟩ := list4s hl
  obtain ⟨x0, x1, x2, rfl⟩ := list3s (cs := xs) hxl
  have g0 : DataW.trod enc Try.prog W base (fun _ => true) held n 23 [a0, a1] = some x0 := by
    have q := hf 0 _ rfl
    rw [hcs] at q
    simpa [k_id] using q
  have g1 : DataW.trod enc Try.prog W base (fun _ => true) held n 24 [a2] = some x1 := by
    have q := hf 1 _ rfl
    rw [hcs] at q
    simpa [k1] using q
  have g2 : DataW.trod enc Try.prog W base (fun _ => true) held n 25 [a3] = some x2 := by
    have q := hf 2 _ rfl
    rw [hcs] at q
    simpa [k2] using q
  obtain ⟨t, nn, e0, w0, w1⟩ := id_trod g0
  obtain ⟨p1, l1, q1, e1⟩ := Go.Joins.slice_form Try.underlying24 g1
  obtain ⟨p2, l2, q2, e2⟩ := Go.Joins.slice_form Try.underlying25 g2
  simp only [List.cons.injEq, and_true] at e0 e1 e2
  obtain ⟨rfl, rfl⟩ := e0
  subst e1 e2
  obtain ⟨li, hi1, hi2, hi3⟩ := its_open rfl g1
  obtain ⟨lg, hg1, hg2, hg3⟩ := gps_open rfl g2
  exact ⟨t, nn, _, _, li, lg, by rw [show cs = #[.int .i64 t, .int .i64 nn, .slice p1 l1 q1, .slice p2 l2 q2] from Array.toList_inj.1 (by rw [hcs])], ⟨hi1, hg1⟩, ⟨hi2, hi3, hg2, hg3⟩, w0, w1⟩
end
end Go.Proofs.Ytbkllceceaedpaa
