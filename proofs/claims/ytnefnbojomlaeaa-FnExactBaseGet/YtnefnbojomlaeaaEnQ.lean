/- What stands under a key: the program's. -/
import Derived.Test.YtnefnbojomlaeaaEnP
namespace Go.Proofs.Ytnefnbojomlaeaa
open Go.RowKit
set_option linter.unusedVariables false

/-- results of an entry in a cell of its own, and a bool -/
theorem en_res {w : World} {tmps : Array Value} {g : Nat} {x0 x1 x2 x3 x4 x5 x6 : Value} {bb : Bool} (hp : tmps[4]?.getD undef = .pointer (some ⟨g, 0, none⟩)) (hb : tmps[5]?.getD undef = .bool bb)
    (hg : w.rangeAt g 0 [x0, x1, x2, x3, x4, x5, x6]) : (results Try.f19 tmps).run Try.prog w = .ok (.tuple #[.agg #[x0, x1, x2, x3, x4, x5, x6], .bool bb]) w := by
  have hl := run_loadVar_mid (P := Try.prog) w g 0 30 [x0, x1, x2, x3, x4, x5, x6] _ hg Try.underlying30 rfl (by kernel_rfl)
  simp [results, Try.results19, asAddr, hp, hb, hl]
theorem range7 {w : World} {B : Nat} {x0 x1 x2 x3 x4 x5 x6 : Value} {t : TypeId} {fr : Nat × Nat} (h : w.heap[B]? = some (.cells #[x0, x1, x2, x3, x4, x5, x6] t fr)) : w.rangeAt B 0 [x0, x1, x2, x3, x4, x5, x6] := by
  have hb := box7_row h
  intro j v hv
  rw [Nat.zero_add]
  match j, hv with
  | 0, hv => cases hv; exact hb.c0
  | 1, hv => cases hv; exact hb.c1
  | 2, hv => cases hv; exact hb.c2
  | 3, hv => cases hv; exact hb.c3
  | 4, hv => cases hv; exact hb.c4
  | 5, hv => cases hv; exact hb.c5
  | 6, hv => cases hv; exact hb.c6
  | j + 7, hv => simp at hv
/-- the row of a key; nothing, if there is none -/
def esFound (l : List Row) (s : ByteArray) : Row := if esIdx l s < l.length then esAt l (esIdx l s) else rowZ
def esHas (l : List Row) (s : ByteArray) : Bool := decide (esIdx l s < l.length)
abbrev rowV (x : Row) : Value := .agg #[.string x.e.key, .int .i64 x.e.til, .int .i64 x.e.kind, .string x.e.text, .slice x.al x.e.list.length x.cl, .slice x.as_ x.e.scores.length x.cs, .slice x.af x.e.fields.length x.cf]
set_option maxHeartbeats 8000000 in
set_option maxRecDepth 100000 in
theorem entryUnder_any (n : Int) (v : Value) (l : List Row) (s : ByteArray) (w : World) (hr : EsReads w v l) (hlen : l.length ≤ 1048576) :
    Calls Try.prog 19 #[bsV n v, .string s] w fun x w' => x = .returned (.tuple #[rowV (esFound l s), .bool (esHas l s)]) ∧ Below w.heap.size w w' := by
  obtain ⟨ao, cap, rfl⟩ := readsR_shape hr.rows
  go_enter Try.func19, Try.ntmps19
  go_wp2_with fail
  obtain ⟨w0, hW⟩ : ∃ W, (w.alloc (.cells #[.int .i64 n, .slice ao l.length cap] 35)).alloc (.cells #[.string ⟨#[]⟩, .int .i64 0, .int .i64 0, .string ⟨#[]⟩, .slice none 0 0, .slice none 0 0, .slice none 0 0] 30) = W := ⟨_, rfl⟩
  have hB0 : Below w.heap.size w w0 := by rw [← hW]; exact ((Below.refl _ w).alloc (Nat.le_refl _) _).alloc (by simp) _
  have hz0 : w0.heap.size = w.heap.size + 2 := by rw [← hW]; simp
  obtain ⟨q0, q1⟩ : w0.heap[w.heap.size]? = some _ ∧ w0.heap[w.heap.size + 1]? = some _ := by rw [← hW]; exact two_rows _ _ _
  rw [hW]
  have Q0 : Hid _ := q0
  have Q1 : Hid _ := q1
  clear hW q0 q1
  refine (entryTable_any n ao l.length cap _).mono ?_
  rintro x w1 ⟨rfl, _, hb1⟩
  have hB1 := hB0.trans (hb1.mono hB0.size)
  have hz1 := hb1.size
  rw [hz0] at hz1
  have P0 : Hid _ := (hb1.block w.heap.size (by omega)).trans Q0.out
  have P1 : Hid _ := (hb1.block (w.heap.size + 1) (by omega)).trans Q1.out
  clear hb1 Q0 Q1 hB0
  go_wp2_with fail
  refine (esPlace_any _ l s _ _ (esReads_kept hr hB1) hlen).mono ?_
  rintro x w2 ⟨rfl, hb2⟩
  have hB2 := hB1.trans (hb2.mono hB1.size)
  have q0 := (hb2.block w.heap.size (by omega)).trans P0.out
  have q1 := (hb2.block (w.heap.size + 1) (by omega)).trans P1.out
  have hr2 := esReads_kept hr hB2
  have b1 : w2.cell? ⟨w.heap.size, 1, none⟩ = some (.slice ao l.length cap) := by rw [cell_of_row _ _ _ _ _ _ q0]; rfl
  have d0 : w2.cell? ⟨w.heap.size + 1, 0, none⟩ = some (.string ⟨#[]⟩) := by rw [cell_of_row _ _ _ _ _ _ q1]; rfl
  have d1 : w2.cell? ⟨w.heap.size + 1, 1, none⟩ = some (.int .i64 0) := by rw [cell_of_row _ _ _ _ _ _ q1]; rfl
  have d2 : w2.cell? ⟨w.heap.size + 1, 2, none⟩ = some (.int .i64 0) := by rw [cell_of_row _ _ _ _ _ _ q1]; rfl
  have d3 : w2.cell? ⟨w.heap.size + 1, 3, none⟩ = some (.string ⟨#[]⟩) := by rw [cell_of_row _ _ _ _ _ _ q1]; rfl
  have d4 : w2.cell? ⟨w.heap.size + 1, 4, none⟩ = some (.slice none 0 0) := by rw [cell_of_row _ _ _ _ _ _ q1]; rfl
  have d5 : w2.cell? ⟨w.heap.size + 1, 5, none⟩ = some (.slice none 0 0) := by rw [cell_of_row _ _ _ _ _ _ q1]; rfl
  have d6 : w2.cell? ⟨w.heap.size + 1, 6, none⟩ = some (.slice none 0 0) := by rw [cell_of_row _ _ _ _ _ _ q1]; rfl
  have f1 : ∀ o, w2.frozen? ⟨w.heap.size + 1, o, none⟩ = false := fun o => by simp [World.frozen?, q1]
  have HQ : Hid _ := q1
  clear hb2 hB1 P0 P1 q0 q1 hr
  have hBs : ∀ W, Below w.heap.size w W → ∀ o u, Below w.heap.size w (W.setCell ⟨w.heap.size + 1, o, none⟩ u) := fun W h o u => h.setCell (p := ⟨w.heap.size + 1, o, none⟩) (by show w.heap.size ≤ w.heap.size + 1; omega) u
  by_cases hi : esIdx l s < l.length
  · obtain ⟨k, hk⟩ : ∃ k, esIdx l s = k := ⟨_, rfl⟩
    have hP : esPlc l s = (k : Int) := by unfold esPlc; rw [if_pos hi, hk]
    have HF : Hid (esFound l s = esAt l k) := by show _ = _; unfold esFound; rw [if_pos hi, hk]
    have HH : Hid (esHas l s = true) := by show _ = _; unfold esHas; exact decide_eq_true hi
    rw [hk] at hi
    obtain ⟨b, off, rfl, hb, hnc, hcm, hc⟩ := es_some hr2.rows (by omega)
    obtain ⟨c0, c1, c2, c3, c4, c5, c6⟩ := es_cells hc (Below.refl _ _) hb hi
    have hk1 : (k : Int) < (l.length : Int) := by omega
    rw [hP]
    clear hP hk hc hnc hcm hr2
    go_wp2_with fail
    refine bodyPost_ret (en_res rfl rfl (range7 (box7_set HQ.out _ _ _ _ _ _ _))) rfl ⟨by rw [HF.out, HH.out], ?_⟩
    exact hBs _ (hBs _ (hBs _ (hBs _ (hBs _ (hBs _ (hBs _ hB2 _ _) _ _) _ _) _ _) _ _) _ _) _ _
  · have hP : esPlc l s = -1 := by unfold esPlc; rw [if_neg hi]
    have HF : Hid (esFound l s = rowZ) := by show _ = _; unfold esFound; rw [if_neg hi]
    have HH : Hid (esHas l s = false) := by show _ = _; unfold esHas; exact decide_eq_false hi
    rw [hP]
    clear hP hi hr2
    go_wp2_with fail
    refine bodyPost_ret (en_res rfl rfl (range7 (box7_set HQ.out _ _ _ _ _ _ _))) rfl ⟨by rw [HF.out, HH.out]; rfl, ?_⟩
    exact hBs _ (hBs _ (hBs _ (hBs _ (hBs _ (hBs _ (hBs _ hB2 _ _) _ _) _ _) _ _) _ _) _ _) _ _
end Go.Proofs.Ytnefnbojomlaeaa
