/- Two drawn ids; a drawn text of an id. What the drawn ones are told as, and read back as. -/
import Derived.Test.YtkpfoocfjhilmaaDoorDrI
import Derived.Test.YtkpfoocfjhilmaaDoorIdP
namespace Go.Proofs.YtkpfoocfjhilmaaDoor
open Go.RowKit
open num

theorem results_cell2 {P : Program} {fn : Func} {p q : Tmp} {ty : TypeId} (h : fn.results = #[.cell p ty, .cell q ty]) (tmps : Array Value) (w : World) (g g2 : Nat) (t t2 : TypeId) (cs cs2 : Array Value) (fr fr2 : Nat × Nat) (d : TypeDesc)
    (hp : tmps.getD p undef = .pointer (some ⟨g, 0, none⟩)) (hp2 : tmps.getD q undef = .pointer (some ⟨g2, 0, none⟩)) (hg : w.heap[g]? = some (.cells cs t fr)) (hg2 : w.heap[g2]? = some (.cells cs2 t2 fr2))
    (hu : P.underlying ty = some d) (hd : (match d with | .struct _ | .array _ _ => true | _ => false) = true) (hi : (P.info? ty).map (·.size) = some cs.size) (hi2 : (P.info? ty).map (·.size) = some cs2.size) :
    (results fn tmps).run P w = .ok (.tuple #[.agg cs, .agg cs2]) w := by
  have hp' : tmps[p]?.getD undef = .pointer (some ⟨g, 0, none⟩) := by simpa using hp
  have hp2' : tmps[q]?.getD undef = .pointer (some ⟨g2, 0, none⟩) := by simpa using hp2
  simp [results, h, hp', hp2', asAddr, run_loadVar_row w g t ty cs fr d hg hu hd hi, run_loadVar_row w g2 t2 ty cs2 fr2 d hg2 hu hd hi2]

set_option maxHeartbeats 4000000 in
theorem drawIds_any (v : Value) (zs : List Int) (w : World) (h : IsBytes w v zs) :
    Calls Tryd.prog 4 #[v] w fun e w' => ∃ a b c d : Int, e = .returned (.tuple #[.agg #[.int .i64 a, .int .i64 b], .agg #[.int .i64 c, .int .i64 d]]) ∧ a ∈ anyTimesL ∧ b ∈ anyNumsL ∧ c ∈ anyTimesL ∧ d ∈ anyNumsL ∧ Below w.heap.size w w' := by
  have hI := h
  obtain ⟨ao, cap, rfl, hlc, hcm, hzb, hz⟩ := h
  clear hlc hcm hzb hz
  go_enter Tryd.func4, Tryd.ntmps4
  go_wp2_with fail
  have hB1 : Below w.heap.size w ((w.alloc (.cells #[.int .i64 0, .int .i64 0] 24)).alloc (.cells #[.int .i64 0, .int .i64 0] 24)) := ((Below.refl _ w).alloc (Nat.le_refl _) _).alloc (by simp) _
  have P1 : Hid (((w.alloc (.cells #[.int .i64 0, .int .i64 0] 24)).alloc (.cells #[.int .i64 0, .int .i64 0] 24)).heap[w.heap.size]? = some (.cells #[.int .i64 0, .int .i64 0] 24 (0, 0))) := fst_new _ _ _
  have Q1 : Hid (((w.alloc (.cells #[.int .i64 0, .int .i64 0] 24)).alloc (.cells #[.int .i64 0, .int .i64 0] 24)).heap[w.heap.size + 1]? = some (.cells #[.int .i64 0, .int .i64 0] 24 (0, 0))) := by
    show _ = _
    rw [show w.heap.size + 1 = (w.alloc (.cells #[.int .i64 0, .int .i64 0] 24)).heap.size by simp, heap_alloc_new]
  obtain ⟨w1, hW⟩ : ∃ W, (w.alloc (.cells #[.int .i64 0, .int .i64 0] 24)).alloc (.cells #[.int .i64 0, .int .i64 0] 24) = W := ⟨_, rfl⟩
  have hz1 : w1.heap.size = w.heap.size + 2 := by rw [← hW]; simp
  rw [hW] at hB1 P1 Q1 ⊢
  clear hW
  have hI1 := bytes_kept hI hB1
  have hopen := open_any _ zs w1 hI1
  obtain ⟨R, hR⟩ : ∃ R, R = w1.heap.size := ⟨_, rfl⟩
  rw [← hR] at hopen
  refine hopen.mono ?_
  rintro e w2 ⟨rfl, ⟨v', zs', h2⟩, hlt2, hb2⟩
  rw [hR] at hb2
  have P2 : Hid _ := (hb2.block w.heap.size (by omega)).trans P1.out
  have Q2 : Hid _ := (hb2.block (w.heap.size + 1) (by omega)).trans Q1.out
  have hB2 := hB1.trans (hb2.mono hB1.size)
  have hRw : w.heap.size + 2 = R := by omega
  clear hopen hI hI1 hb2 hB1 P1 Q1 hR hz1
  go_wp2_with fail
  refine (anyId_any R 0 v' zs' _ h2 (by omega)).mono ?_
  rintro e w3 ⟨a, b, q, rfl, ha, hb, h3, hq, hg3⟩
  have P3 : Hid _ := box_kept P2.out hg3 (by omega)
  have Q3 : Hid _ := box_kept Q2.out hg3 (by omega)
  have hB3 := below_grow1 hB2 hg3 (by omega)
  clear P2 Q2 hB2 hg3 h2
  go_wp2_with fail
  refine (anyId_any R q v' zs' _ h3 (by omega)).mono ?_
  rintro e w4 ⟨c, d, q2, rfl, hc, hd, h4, hq2, hg4⟩
  have P4 : Hid _ := box_kept P3.out hg4 (by omega)
  have Q4 : Hid _ := box_kept Q3.out hg4 (by omega)
  have hB4 := below_grow1 hB3 hg4 (by omega)
  clear P3 Q3 hB3 hg4 h3
  have f0 := res_frozen P4.out
  have f1 := res_frozen Q4.out
  have c0 := (res_cells P4.out).1
  have c1 := (res_cells P4.out).2
  have d0 := (res_cells Q4.out).1
  have d1 := (res_cells Q4.out).2
  go_wp2_with fail
  have S0 : ((((w4.setCell ⟨w.heap.size, 0, none⟩ (.int .i64 a)).setCell ⟨w.heap.size, 1, none⟩ (.int .i64 b)).setCell ⟨w.heap.size + 1, 0, none⟩ (.int .i64 c)).setCell ⟨w.heap.size + 1, 1, none⟩ (.int .i64 d)).heap[w.heap.size]? = some (.cells #[.int .i64 a, .int .i64 b] 24 (0, 0)) :=
    (heap_setCell_other _ _ _ _ (by show w.heap.size ≠ w.heap.size + 1; omega)).trans ((heap_setCell_other _ _ _ _ (by show w.heap.size ≠ w.heap.size + 1; omega)).trans (res_set P4.out _ _))
  have S1 : ((((w4.setCell ⟨w.heap.size, 0, none⟩ (.int .i64 a)).setCell ⟨w.heap.size, 1, none⟩ (.int .i64 b)).setCell ⟨w.heap.size + 1, 0, none⟩ (.int .i64 c)).setCell ⟨w.heap.size + 1, 1, none⟩ (.int .i64 d)).heap[w.heap.size + 1]? = some (.cells #[.int .i64 c, .int .i64 d] 24 (0, 0)) :=
    res_set ((heap_setCell_other _ _ _ _ (by show w.heap.size + 1 ≠ w.heap.size; omega)).trans ((heap_setCell_other _ _ _ _ (by show w.heap.size + 1 ≠ w.heap.size; omega)).trans Q4.out)) _ _
  refine bodyPost_ret (results_cell2 rfl _ _ w.heap.size (w.heap.size + 1) 24 24 _ _ (0, 0) (0, 0) _ rfl rfl S0 S1 Tryd.underlying24 rfl (by kernel_rfl) (by kernel_rfl)) rfl ?_
  exact ⟨a, b, c, d, rfl, ha, hb, hc, hd, (((hB4.setCell (p := ⟨w.heap.size, 0, none⟩) (Nat.le_refl _) _).setCell (p := ⟨w.heap.size, 1, none⟩) (Nat.le_refl _) _).setCell (p := ⟨w.heap.size + 1, 0, none⟩) (Nat.le_succ _) _).setCell (p := ⟨w.heap.size + 1, 1, none⟩) (Nat.le_succ _) _⟩

def textsL : List ByteArray := [⟨#[53, 45, 50]⟩, ⟨#[48, 45, 48]⟩, ⟨#[53]⟩, ⟨#[45, 53]⟩, ⟨#[53, 45]⟩, ⟨#[48, 53, 45, 49]⟩, ⟨#[53, 45, 48, 49]⟩, ⟨#[49, 48, 48, 48, 48, 48, 48, 45, 49]⟩, ⟨#[49, 48, 48, 48, 48, 48, 49, 45, 49]⟩, ⟨#[53, 45, 50, 45, 51]⟩, ⟨#[97, 45, 49]⟩]
theorem texts_own (w : World) (L : List ByteArray) (n : Nat) (hn : L.length = n) (hm : n ≤ 1000) : Owns (w.alloc (.cells (L.map Value.string).toArray 9)) w.heap.size (.slice (some ⟨w.heap.size, 0, none⟩) L.length n) L := by
  have := World.ownsRow_lit w (base := w.heap.size) (e := 9) (size := 1) (L.map Value.string).toArray n (Nat.le_refl _) (by unfold maxLen; omega) (by simp [hn])
  unfold Owns; rw [hn]; simpa using this
theorem of_spot (r p : Nat) (v : Value) (zs : List Int) (L : List ByteArray) (n : Nat) (w : World) (h : RdAt w r v zs p) (hp : p ≤ 90000) (hl : L.length = n) (h0 : 0 < n) (hn : n ≤ 1000) :
    Calls Tryd.prog 21 #[.pointer (some ⟨r, 0, none⟩), .slice (some ⟨w.heap.size, 0, none⟩) n n] (w.alloc (.cells (L.map Value.string).toArray 9)) fun e w' => ∃ s, e = .returned (.string s) ∧ s ∈ L ∧ w.grownBy w' (some r) := by
  have hB := (Below.refl w.heap.size w).alloc (Nat.le_refl _) (.cells (L.map Value.string).toArray 9)
  have ho := texts_own w L n hl hn
  have := of_any r p v zs _ L w.heap.size _ (rd_grown h hB) (by omega) ho (rd_lt h) (by omega) (by omega)
  rw [hl] at this
  refine this.mono ?_
  rintro e w2 ⟨s, rfl, hmem, hR2, hg2⟩
  exact ⟨s, rfl, hmem, grown_trans2 (World.grownBy_alloc w _ (some r)) hg2⟩
set_option maxHeartbeats 4000000 in
theorem drawText_any (v : Value) (zs : List Int) (w : World) (h : IsBytes w v zs) :
    Calls Tryd.prog 10 #[v] w fun e w' => ∃ s, e = .returned (.string s) ∧ s ∈ textsL ∧ Below w.heap.size w w' := by
  go_enter Tryd.func10, Tryd.ntmps10
  go_wp2_with fail
  refine (open_any v zs _ h).mono ?_
  rintro e w1 ⟨rfl, ⟨v', zs', hR1⟩, hlt1, hB1⟩
  go_wp2_with fail
  have hcall := of_spot _ 0 v' zs' textsL 11 w1 hR1 (by omega) rfl (by omega) (by omega)
  simp only [textsL, List.map_cons, List.map_nil] at hcall
  refine hcall.mono ?_
  rintro e w2 ⟨s, rfl, hs, hg2⟩
  have hB2 := below_rd hB1 hg2
  clear hcall
  go_wp2_with fail
  go_ret
  exact ⟨s, rfl, hs, hB2⟩

/-! ### what IdGet says, as one function -/
def idGetF (s : ByteArray) : (Int × Int) × Bool :=
  if Lib.indexByte s.data.toList 45 < 0 then ((0, 0), false)
  else ((onlyIf (getB s (Lib.indexByte s.data.toList 45).toNat) (figs (preL s (Lib.indexByte s.data.toList 45).toNat)), onlyIf (getB s (Lib.indexByte s.data.toList 45).toNat) (figs (sufL s (Lib.indexByte s.data.toList 45).toNat))), getB s (Lib.indexByte s.data.toList 45).toNat)
theorem idGetF_none {s : ByteArray} (h : Lib.indexByte s.data.toList 45 = -1) : idGetF s = ((0, 0), false) := by unfold idGetF; rw [h]; rfl
theorem idGetF_some {s : ByteArray} {k : Nat} (h : Lib.indexByte s.data.toList 45 = (k : Int)) : idGetF s = ((onlyIf (getB s k) (figs (preL s k)), onlyIf (getB s k) (figs (sufL s k))), getB s k) := by
  unfold idGetF; rw [h, if_neg (by omega)]; rfl
theorem bothF (s : ByteArray) (hs : s.size ≤ maxLen) : (∀ w, Calls Tryd.prog 11 #[.string s] w fun e w' => e = .returned (.tuple #[.agg #[.int .i64 (idGetF s).1.1, .int .i64 (idGetF s).1.2], .bool (idGetF s).2]) ∧ Below w.heap.size w w') ∧
    (∀ w, Calls Tryd.prog 6 #[.string s] w fun e w' => e = .returned (.tuple #[.agg #[.int .i64 (idGetF s).1.1, .int .i64 (idGetF s).1.2], .bool (idGetF s).2]) ∧ Below w.heap.size w w') := by
  have hat : ∀ i (hi : i < s.size), s.data.toList[i]? = some s[i] := fun i hi => by rw [List.getElem?_eq_getElem (by simpa using hi)]; rfl
  have h45 : ∀ i (hi : i < s.size), s.data.toList[i]? ≠ some 45 → (((s[i].toNat : Nat) : Int) == 45) = false := fun i hi h => by
    rw [beq_eq_false_iff_ne]
    intro e
    apply h
    rw [hat i hi, Option.some.injEq, ← UInt8.toNat_inj]
    have : (45 : UInt8).toNat = 45 := rfl
    omega
  have hge := Lib.indexByte_ge s.data.toList 45
  rcases Int.lt_or_le (Lib.indexByte s.data.toList 45) 0 with h | h
  · have hk : Lib.indexByte s.data.toList 45 = -1 := by omega
    rw [idGetF_none hk]
    exact ⟨fun w => specIdGet_none s w (fun i hi => h45 i hi (Lib.indexByte_none hk i)) hs, fun w => implIdGet_none s w hk hs⟩
  · obtain ⟨k, hk⟩ := Int.eq_ofNat_of_zero_le h
    have hx := Lib.indexByte_some hk
    have hlt : k < s.size := by
      have := (List.getElem?_eq_some_iff.1 hx.1).1
      simpa using this
    have hy : (((s[k].toNat : Nat) : Int) == 45) = true := by
      have := hx.1
      rw [hat k hlt, Option.some.injEq] at this
      rw [this]; rfl
    rw [idGetF_some hk]
    exact ⟨fun w => specIdGet_some s k w (fun i hi hik => h45 i hi (hx.2 i hik)) hlt hy hs, fun w => implIdGet_some s k w hk hlt hs⟩

/-! ### the drawn ones -/
theorem all_back : (anyTimesL.all fun a => anyNumsL.all fun b => decide (idGetF (idT a b) = if idOkB a b = true then ((a, b), true) else ((0, 0), false)) && (decide ((idT a b).size = 0) == !idOkB a b) && decide ((idT a b).size ≤ 100)) = true := by decide +kernel
theorem all_texts : (textsL.all fun s => (!(idGetF s).2 || decide (idT (idGetF s).1.1 (idGetF s).1.2 = s)) && decide (s.size ≤ 100)) = true := by decide +kernel
theorem back_of {a b : Int} (ha : a ∈ anyTimesL) (hb : b ∈ anyNumsL) : idGetF (idT a b) = (if idOkB a b = true then ((a, b), true) else ((0, 0), false)) ∧ ((idT a b).size = 0 ↔ idOkB a b = false) ∧ (idT a b).size ≤ maxLen := by
  have h := List.all_eq_true.1 (List.all_eq_true.1 all_back a ha) b hb
  simp only [Bool.and_eq_true, decide_eq_true_eq, beq_iff_eq] at h
  refine ⟨h.1.1, ?_, by unfold maxLen; omega⟩
  have h2 := h.1.2
  constructor
  · intro h0; rw [h0] at h2; simpa using h2
  · intro h0; rw [h0] at h2; simpa using h2
theorem text_of {s : ByteArray} (h : s ∈ textsL) : ((idGetF s).2 = true → idT (idGetF s).1.1 (idGetF s).1.2 = s) ∧ s.size ≤ maxLen := by
  have h := List.all_eq_true.1 all_texts s h
  simp only [Bool.and_eq_true, Bool.or_eq_true, decide_eq_true_eq, Bool.not_eq_true'] at h
  exact ⟨fun h2 => by rcases h.1 with h3 | h3; · rw [h2] at h3; cases h3
                      · exact h3, by unfold maxLen; omega⟩
end Go.Proofs.YtkpfoocfjhilmaaDoor
