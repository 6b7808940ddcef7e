/- Several texts in one: EnN EnO. -/
import Derived.Test.YtnaklhompdcgeaaEnM
import Derived.Sort.Walk0
import Derived.Test.YtnaklhompdcgeaaEnE
import Derived.Test.YtnaklhompdcgeaaEnW1
/- Whether a base is ok, the program's. -/
namespace Go.Proofs.Ytnaklhompdcgeaa
open Go.RowKit
set_option linter.unusedVariables false

set_option maxRecDepth 100000 in
set_option maxHeartbeats 4000000 in
theorem entryTable_any (n : Int) (ao : Option Addr) (k cap : Nat) (w : World) :
    Calls Try.prog 29 #[bsV n (.slice ao k cap)] w fun x w' => x = .returned (.agg #[.slice ao k cap, .int .i64 12, .func (.func 56) #[] #[], .func (.func 57) #[] #[], .func (.func 54) #[] #[.pointer (some ⟨w.heap.size, 0, none⟩)]]) ∧ w'.heap[w.heap.size]? = some (.cells #[.int .i64 n, .slice ao k cap] 28 (0, 0)) ∧ Below w.heap.size w w' := by
  have hrs := fun (k : Nat) (w : World) (a : Addr) => run_store Try.prog w a (.func (.func k) #[] #[]) .plain rfl
  have hrt := fun (p : Option Addr) (w : World) (a : Addr) => run_store Try.prog w a (.func (.func 54) #[] #[.pointer p]) .plain rfl
  go_enter Try.func29, Try.ntmps29
  go_wp2_with fail
  refine bodyPost_ret (results_cell_row rfl _ _ (w.heap.size + 1) 59 #[.slice ao k cap, .int .i64 12, .func (.func 56) #[] #[], .func (.func 57) #[] #[], .func (.func 54) #[] #[.pointer (some ⟨w.heap.size, 0, none⟩)]] (0, 0) _ rfl (heap_alloc2_new _ _ _) Try.underlying59 rfl (by kernel_rfl)) rfl ?_
  exact ⟨rfl, (two_rows _ _ _).1, ((Below.refl _ w).alloc (Nat.le_refl _) _).alloc (by simp) _⟩
set_option maxRecDepth 100000 in
set_option maxHeartbeats 4000000 in
theorem implBaseOk_any (n : Int) (v : Value) (l : List Row) (w : World) (hr : EsReads w v l) (hs : EsSmall l) :
    Calls Try.prog 17 #[bsV n v] w fun x w' => x = .returned (.bool (bsOkB n (l.map Row.e))) ∧ Below w.heap.size w w' := by
  obtain ⟨ao, cap, rfl⟩ := readsR_shape hr.rows
  have hA : ∀ A, Below w.heap.size w (w.alloc A) := fun A => (Below.refl _ w).alloc (Nat.le_refl _) A
  have HR : Hid (∀ A, EsReads (w.alloc A) (.slice ao l.length cap) l) := fun A => esReads_kept hr (hA A)
  clear hr
  cases hT : nowOkB n with
  | false =>
    have HN : Hid (bsOkB n (l.map Row.e) = false) := by show _ = _; unfold bsOkB; rw [hT]; simp
    go_enter Try.func17, Try.ntmps17
    go_wp2_with (go_at_call 28; refine (timeOk_any _ _).mono ?_; rw [hT]; rintro x w' ⟨rfl, rfl⟩)
    go_ret
    exact ⟨ret_bool HN.out.symm, hA _⟩
  | true =>
    have HN : Hid (bsOkB n (l.map Row.e) = esOkB n (l.map Row.e)) := by show _ = _; unfold bsOkB esOkB; rw [hT, Bool.and_true, Bool.and_comm]
    go_enter Try.func17, Try.ntmps17
    go_wp2_with (go_at_call 28; refine (timeOk_any _ _).mono ?_; rw [hT]; rintro x w' ⟨rfl, rfl⟩)
    obtain ⟨w0, hW⟩ : ∃ W, w.alloc (.cells #[.int .i64 n, .slice ao l.length cap] 28) = W := ⟨_, rfl⟩
    have hA0 : Below w.heap.size w w0 := by rw [← hW]; exact hA _
    have hes0 : EsReads w0 (.slice ao l.length cap) l := by rw [← hW]; exact HR.out _
    rw [hW]
    clear hW hA HR
    refine (entryTable_any n ao l.length cap _).mono ?_
    rintro x w1 ⟨rfl, hrow, hb1⟩
    have hB1 := hA0.trans (hb1.mono hA0.size)
    have HRW : Hid _ := hrow
    have hes := esReads_kept hes0 hb1
    clear hb1 hrow hes0 hA0
    go_wp2_with fail
    refine (esOk_any _ l w0.heap.size n _ _ hes hs HRW.out).mono ?_
    rintro x w2 ⟨rfl, hb2⟩
    have hB2 := hB1.trans (hb2.mono hB1.size)
    clear hb2 hB1 hes HRW
    go_wp2_with fail
    go_ret
    exact ⟨ret_bool HN.out.symm, hB2⟩
end Go.Proofs.Ytnaklhompdcgeaa
/- A base among the arguments, opened. -/
namespace Go.Proofs.Ytnaklhompdcgeaa
open Go.ChangeShapes Go.WideShapes Go.RowKit
set_option linter.unusedVariables false

instance : Inhabited Row := ⟨rowZ⟩
section
variable {H : Type} {enc : TypeId × Value → H} {W : World} {base : Nat} {held : Bool}
set_option maxRecDepth 100000 in
theorem es_open {fuel : Nat} {cs : List Value} {x : DataW H × List MemPlace} {a : Option Addr} {n c : Nat} (hcs : cs = [.slice a n c])
    (h : DataW.trod enc Try.prog W base (fun _ => true) held fuel 22 cs = some x) :
    ∃ l, EsReads W (.slice a n c) l ∧ (∀ x ∈ l, EnFit x.e) ∧ l.length ≤ maxLen := by
  have h7 : Try.prog.cellsOf 52 = 7 := by kernel_rfl
  rcases Deep.open_slice Try.underlying22 h with ⟨h0, _⟩ | ⟨ad, len, cap, m, q, D, Pl, h0, _, hlc, hcm, hm, _, hx⟩
  · rw [hcs] at h0
    simp only [List.cons.injEq, Value.slice.injEq, and_true] at h0
    obtain ⟨rfl, rfl, rfl⟩ := h0
    exact ⟨[], ⟨.inl ⟨rfl, _, _, rfl, by simp⟩, (fun x hx => by cases hx)⟩, (fun x hx => by cases hx), by simp⟩
  · rw [hcs] at h0
    simp only [List.cons.injEq, Value.slice.injEq, and_true] at h0
    obtain ⟨rfl, rfl, rfl⟩ := h0
    have hnm : n ≤ m := by rw [hm]; split <;> omega
    have each : ∀ i, i < n → ∃ r : Row, RowIn W r ∧ EnFit r.e ∧ ∀ j u, (rowC r)[j]? = some u → W.cell? ((ad.add (i * 7)).add j) = some u := by
      intro i hi
      obtain ⟨cs', h1, h2⟩ := hx i (by omega)
      rw [h7] at h1
      obtain ⟨e, vl, vs, vf, hcs', hr, hf⟩ := en_cells h2
      obtain ⟨al, cl, as_, cs_, af, cf, rfl, rfl, rfl⟩ := enReads_shape hr
      obtain ⟨_, hl, hc⟩ := World.cells?_some h1
      refine ⟨⟨e, al, cl, as_, cs_, af, cf⟩, hr, hf, fun j u hu => ?_⟩
      have hj : j < 7 := (List.getElem?_eq_some_iff.1 hu).1
      rw [hc j hj, hcs']; exact hu
    obtain ⟨f, hf⟩ := Deep.choose_lt each
    refine ⟨(List.range n).map f, ⟨?_, ?_⟩, ?_, by simp; unfold maxLen at *; omega⟩
    · by_cases h0 : n = 0
      · subst h0; exact .inl ⟨by simp, _, _, rfl, by simp⟩
      · obtain ⟨b, off, spot⟩ := ad
        have hc := (hf 0 (by omega)).2.2 0 _ rfl
        have hspot : spot = none := by simpa [Addr.add] using World.cell?_spot hc
        subst hspot
        have hc' : W.cell? ⟨b, off, none⟩ = some (.string (f 0).e.key) := by simpa [Addr.add] using hc
        refine .inr ⟨by simp; omega, b, off, c, by simp, World.block_lt_of_cell? W _ hc', by simp; omega, hcm, fun k y hk => ?_⟩
        rw [List.getElem?_map, Option.map_eq_some_iff] at hk
        obtain ⟨k', hk', rfl⟩ := hk
        obtain ⟨hkn, rfl⟩ : k < n ∧ k = k' := by
          obtain ⟨h1, h2⟩ := List.getElem?_eq_some_iff.1 hk'
          rw [List.getElem_range] at h2
          exact ⟨by simpa using h1, h2⟩
        intro j u hu
        have := (hf k hkn).2.2 j u hu
        rwa [Addr.add_mid, Addr.add_mid] at this
    · intro x hx'
      rw [List.mem_map] at hx'
      obtain ⟨i, hi, rfl⟩ := hx'
      exact (hf i (List.mem_range.1 hi)).1
    · intro x hx'
      rw [List.mem_map] at hx'
      obtain ⟨i, hi, rfl⟩ := hx'
      exact (hf i (List.mem_range.1 hi)).2.1
set_option maxRecDepth 100000 in
/-- one base among the arguments, opened -/
theorem bs_open1 {r : Reach} {b0 : Nat} {v : Value} {d : DataW H} {p : List MemPlace} (hv : Value.okWide Try.prog W r b0 24 v) (h : DataW.Trod enc Try.prog W base (fun _ => true) held 24 v d p) :
    ∃ (n : Int) (u : Value) (l : List Row), v = bsV n u ∧ EsReads W u l ∧ (∀ x ∈ l, EnFit x.e) ∧ l.length ≤ maxLen ∧ (Lit.int .i64 n).wf = true := by
  obtain ⟨v0, v1, y0, y1, n, rfl, _, _, h0, h1⟩ := Go.Joins.open_agg2 Try.underlying24 (by kernel_rfl) (by kernel_rfl) hv h
  obtain ⟨z, hz, _, hw⟩ := DataW.trod_int Try.underlying3 h0
  obtain ⟨p4, l4, q4, e4⟩ := Go.Joins.slice_form Try.underlying22 h1
  simp only [List.cons.injEq, and_true] at hz e4
  subst hz e4
  obtain ⟨l, h2, h3, h4⟩ := es_open rfl h1
  exact ⟨z, _, l, rfl, h2, h3, h4, hw⟩
end
end Go.Proofs.Ytnaklhompdcgeaa
