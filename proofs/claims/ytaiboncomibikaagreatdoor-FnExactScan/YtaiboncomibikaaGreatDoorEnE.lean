/- An entry among the arguments, opened. -/
import Derived.Test.YtaiboncomibikaaGreatDoorEnA
import Derived.SliceStrings
import Derived.ProofKit
namespace Go.Proofs.YtaiboncomibikaaGreatDoor
open Go.ChangeShapes Go.WideShapes Go.RowKit
set_option linter.unusedVariables false

theorem list7 {α : Type} {cs : List α} (h : cs.length = 7) : ∃ a b c d e f g, cs = [a, b, c, d, e, f, g] := by
  match cs, h with
  | [a, b, c, d, e, f, g], _ => exact ⟨a, b, c, d, e, f, g, rfl⟩
section
variable {H : Type} {enc : TypeId × Value → H} {W : World} {base : Nat} {held : Bool}
set_option maxRecDepth 100000 in
set_option maxHeartbeats 4000000 in
theorem en_cells {fuel : Nat} {cs : List Value} {x : DataW H × List MemPlace} (h : DataW.trod enc Tryz.prog W base (fun _ => true) held fuel 53 cs = some x) :
    ∃ (e : Ent) (vl vs vf : Value), cs = [.string e.key, .int .i64 e.til, .int .i64 e.kind, .string e.text, vl, vs, vf] ∧ EnReads W vl vs vf e ∧ EnFit e := by
  obtain ⟨xs, n, _, _, hl, hxl, hf⟩ := DataW.trod_struct Tryz.underlying53 h
  have h7 : Tryz.prog.cellsOf 53 = 7 := by kernel_rfl
  have c1 : Tryz.prog.cellsOf 9 = 1 := by kernel_rfl
  have c2 : Tryz.prog.cellsOf 3 = 1 := by kernel_rfl
  have c3 : Tryz.prog.cellsOf 26 = 1 := by kernel_rfl
  have c4 : Tryz.prog.cellsOf 50 = 1 := by kernel_rfl
  have c5 : Tryz.prog.cellsOf 51 = 1 := by kernel_rfl
  rw [h7] at hl
  obtain ⟨a0, a1, a2, a3, a4, a5, a6, rfl⟩ := list7 hl
  obtain ⟨x0, x1, x2, x3, x4, x5, x6, rfl⟩ := list7 (cs := xs) hxl
  have g0 : DataW.trod enc Tryz.prog W base (fun _ => true) held n 9 [a0] = some x0 := by
    have q := hf 0 _ rfl
    simpa [c1] using q
  have g1 : DataW.trod enc Tryz.prog W base (fun _ => true) held n 3 [a1] = some x1 := by
    have q := hf 1 _ rfl
    simpa [c2] using q
  have g2 : DataW.trod enc Tryz.prog W base (fun _ => true) held n 3 [a2] = some x2 := by
    have q := hf 2 _ rfl
    simpa [c2] using q
  have g3 : DataW.trod enc Tryz.prog W base (fun _ => true) held n 9 [a3] = some x3 := by
    have q := hf 3 _ rfl
    simpa [c1] using q
  have g4 : DataW.trod enc Tryz.prog W base (fun _ => true) held n 26 [a4] = some x4 := by
    have q := hf 4 _ rfl
    simpa [c3] using q
  have g5 : DataW.trod enc Tryz.prog W base (fun _ => true) held n 50 [a5] = some x5 := by
    have q := hf 5 _ rfl
    simpa [c4] using q
  have g6 : DataW.trod enc Tryz.prog W base (fun _ => true) held n 51 [a6] = some x6 := by
    have q := hf 6 _ rfl
    simpa [c5] using q
  clear hf
  obtain ⟨s0, e0, _, w0⟩ := DataW.trod_string Tryz.underlying9 g0
  obtain ⟨z1, e1, _, w1⟩ := DataW.trod_int Tryz.underlying3 g1
  obtain ⟨z2, e2, _, w2⟩ := DataW.trod_int Tryz.underlying3 g2
  obtain ⟨s3, e3, _, w3⟩ := DataW.trod_string Tryz.underlying9 g3
  simp only [List.cons.injEq, and_true] at e0 e1 e2 e3
  subst e0 e1 e2 e3
  obtain ⟨p4, l4, q4, e4⟩ := Go.Joins.slice_form Tryz.underlying26 g4
  obtain ⟨p5, l5, q5, e5⟩ := Go.Joins.slice_form Tryz.underlying50 g5
  obtain ⟨p6, l6, q6, e6⟩ := Go.Joins.slice_form Tryz.underlying51 g6
  simp only [List.cons.injEq, and_true] at e4 e5 e6
  subst e4 e5 e6
  obtain ⟨L, hL⟩ : ∃ l, Reads W (.slice p4 l4 q4) l ∧ (∀ s ∈ l, s.size ≤ maxLen) ∧ l.length ≤ maxLen := by
    rcases open_strings Tryz.underlying26 Tryz.underlying9 (by kernel_rfl) g4 with ⟨hcs, _⟩ | ⟨x, ln, cp, ss, hcs, _, hl, hm, hz, _, hcell, hws⟩
    · exact reads_of_none (by simpa using hcs)
    · exact reads_of_some (by simpa using hcs) hl hm (by simpa using hz) hcell hws
  obtain ⟨S, hS⟩ := sc_open rfl g5
  obtain ⟨F, hF⟩ := pr_open rfl g6
  exact ⟨⟨s0, z1, z2, s3, L, S, F⟩, _, _, _, rfl, ⟨hL.1, hS.1, hF.1⟩, ⟨w0, w1, w2, w3, hL.2.1, hL.2.2, hS.2.1, hS.2.2, hF.2.1, hF.2.2⟩⟩
set_option maxRecDepth 100000 in
/-- one entry among the arguments, opened -/
theorem en_open1 {r : Reach} {b0 : Nat} {v : Value} {d : DataW H} {p : List MemPlace} (hv : Value.okWide Tryz.prog W r b0 53 v) (h : DataW.Trod enc Tryz.prog W base (fun _ => true) held 53 v d p) :
    ∃ (e : Ent) (vl vs vf : Value), v = enV e vl vs vf ∧ EnReads W vl vs vf e ∧ EnFit e := by
  obtain ⟨cs, rfl, _⟩ := okWide_struct Tryz.underlying53 hv
  obtain ⟨fuel, hf⟩ := h
  obtain ⟨e, vl, vs, vf, hc, h1, h2⟩ := en_cells (cs := cs.toList) (by simpa [Value.cells] using hf)
  exact ⟨e, vl, vs, vf, by rw [show cs = #[.string e.key, .int .i64 e.til, .int .i64 e.kind, .string e.text, vl, vs, vf] from Array.toList_inj.1 (by rw [hc])], h1, h2⟩
end
end Go.Proofs.YtaiboncomibikaaGreatDoor
