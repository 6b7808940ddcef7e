/- Bytes that grow one by one, in a block that a conversion or an append made. -/
import Derived.Test.YtnpkegmkmhambaaWdP
import Derived.Laws.IdiomStrings
import Derived.Laws.IdiomCopy
import Derived.Laws.BytesArg
import Derived.Laws.AppendOwn
namespace Go.Proofs.Ytnpkegmkmhambaa
open Go.RowKit wd
set_option linter.unusedVariables false

/-- v holds the numbers xs as bytes, in a block from base on that may be written -/
def Byts (w : World) (base : Nat) (v : Value) (xs : List Int) : Prop :=
  ∃ g cap, v = .slice (some ⟨g, 0, none⟩) xs.length cap ∧ base ≤ g ∧ g < w.heap.size ∧ xs.length ≤ cap ∧ cap ≤ maxLen ∧
    (∀ j, j < cap → (w.cell? ⟨g, j, none⟩).isSome = true ∧ w.frozen? ⟨g, j, none⟩ = false) ∧ ∀ j, j < xs.length → w.cell? ⟨g, j, none⟩ = some (.int .u8 (xs.getD j 0))
theorem adds (g j : Nat) : (⟨g, 0, none⟩ : Addr).add j = ⟨g, j, none⟩ := by unfold Addr.add; split <;> simp_all
theorem byts_room {P : Program} (t ty e : TypeId) (i : TypeInfo) (ht : P.underlying t = some (.slice e)) (hi : P.info? e = some i) (hs1 : i.size = 1)
    (w : World) (g n cap : Nat) (hroom : n + 1 ≤ cap) (hc : (w.cell? ⟨g, n, none⟩).isSome = true) (hf : w.frozen? ⟨g, n, none⟩ = false) (a : Addr) (c : Nat) (z : Int) (ha : w.cell? a = some (.int .u8 z)) :
    (Builtin.append_ #[t, t] ty #[.slice (some ⟨g, 0, none⟩) n cap, .slice (some a) 1 c]).run P w = .ok (.slice (some ⟨g, 0, none⟩) (n + 1) cap) (w.setCell ⟨g, n, none⟩ (.int .u8 z)) := by
  have hfc := run_firstCells_some (P := P) w 1 1 a 1 c [.int .u8 z] rfl (by
    intro j v hj
    match j, hj with
    | 0, hj => cases hj; rw [show a.add 0 = a by unfold Addr.add; split <;> simp_all]; exact ha)
  have hst := run_storeCells_cells (P := P) g n [.int .u8 z] 0 w (by intro j hj; match j, hj with | 0, _ => exact hc) (by intro j hj; match j, hj with | 0, _ => exact hf) (by intro v hv; simp only [List.mem_cons, List.not_mem_nil, or_false] at hv; subst hv; rfl)
  simp only [Nat.add_zero] at hst
  simp [Builtin.append_, run_underlying ht, sizeOf, typeInfo, hi, hs1, Builtin.lenOf, hroom, hfc, Addr.add_lit, hst]
  rfl
theorem byts_append {P : Program} (t ty e : TypeId) (i : TypeInfo) (ht : P.underlying t = some (.slice e)) (hi : P.info? e = some i) (hz : i.zero = some (.int .u8 0)) (hs1 : i.size = 1) (hby : i.bytes = 1)
    (w : World) (base : Nat) (v : Value) (xs : List Int) (hb : Byts w base v xs) (hl : xs.length ≤ 1000000) (hbase : base ≤ w.heap.size) (a : Addr) (c : Nat) (z : Int) (ha : w.cell? a = some (.int .u8 z)) :
    ∃ v' w', (Builtin.append_ #[t, t] ty #[v, .slice (some a) 1 c]).run P w = .ok v' w' ∧ Byts w' base v' (xs ++ [z]) ∧ Below base w w' := by
  obtain ⟨g, cap, rfl, hg, hgs, hn, hcm, hcf, hx⟩ := hb
  have hlen : (xs ++ [z]).length = xs.length + 1 := by simp
  by_cases hroom : xs.length + 1 ≤ cap
  · have hc0 := hcf xs.length (by omega)
    refine ⟨_, _, byts_room t ty e i ht hi hs1 w g xs.length cap hroom hc0.1 hc0.2 a c z ha, ⟨g, cap, by rw [hlen], hg, by simpa [World.setCell] using hgs, by omega, hcm, ?_, ?_⟩, (Below.refl _ _).setCell (p := ⟨g, xs.length, none⟩) hg _⟩
    · intro j hj
      obtain ⟨u, hu⟩ := Option.isSome_iff_exists.1 hc0.1
      by_cases ej : j = xs.length
      · subst ej
        rw [World.cell?_setCell_same w _ _ hu]
        exact ⟨rfl, by simpa using hc0.2⟩
      · rw [World.cell?_setCell_other w _ _ _ (by simp; try omega)]
        exact ⟨(hcf j hj).1, by simpa using (hcf j hj).2⟩
    · intro j hj
      obtain ⟨u, hu⟩ := Option.isSome_iff_exists.1 hc0.1
      by_cases ej : j = xs.length
      · subst ej
        rw [World.cell?_setCell_same w _ _ hu]
        simp
      · rw [World.cell?_setCell_other w _ _ _ (by simp; try omega), hx j (by omega), List.getD_eq_getElem?_getD, List.getD_eq_getElem?_getD, List.getElem?_append_left (by omega)]
  · have hr := run_append_grow (P := P) w t ty e i (.int .u8 0) ht hi hz ⟨g, 0, none⟩ xs.length cap (xs.map (Value.int .u8)) (by rw [hs1]; simp) (by
      intro j v hj
      rw [List.getElem?_map] at hj
      cases hq : xs[j]? with
      | none => rw [hq] at hj; cases hj
      | some u =>
        have hjl := (List.getElem?_eq_some_iff.1 hq).1
        rw [hq] at hj
        cases hj
        rw [adds, hx j hjl, List.getD_eq_getElem?_getD, hq]; rfl) a 1 c [.int .u8 z] (by rw [hs1]; rfl) (by
      intro j v hj
      match j, hj with
      | 0, hj => cases hj; rw [show a.add 0 = a by unfold Addr.add; split <;> simp_all]; exact ha) (by omega) (by omega) (by rw [hby]; exact growslice_fits (by omega) (by omega))
    have hge := grownCap_ge w (xs.length + 1) cap e
    have hcm2 : grownCap w (xs.length + 1) cap e ≤ maxLen := grownCap_le_maxLen w (xs.length + 1) cap e (by unfold maxLen; omega)
    generalize grownCap w (xs.length + 1) cap e = G at hr hge hcm2
    have hheap := heap_alloc_new w.drew (.cells ((xs.map (Value.int .u8)).toArray ++ [Value.int .u8 z].toArray ++ Builtin.zeroCells (Value.int .u8 0).cells (G - (xs.length + 1))) e)
    have hsz : ((xs.map (Value.int .u8)).toArray ++ [Value.int .u8 z].toArray ++ Builtin.zeroCells (Value.int .u8 0).cells (G - (xs.length + 1))).size = G := by
      have h1 : (Value.int IntKind.u8 0).cells.size = 1 := rfl
      simp only [Array.size_append, List.size_toArray, List.length_map, size_zeroCells, h1, List.length_cons, List.length_nil]
      omega
    refine ⟨_, _, hr, ⟨w.heap.size, G, by rw [hlen], hbase, by simp, by omega, hcm2, ?_, ?_⟩, (Below.refl _ _).drew.alloc hbase _⟩
    · intro j hj
      constructor
      · unfold World.cell?
        rw [show (w.drew.alloc _).heap[w.heap.size]? = _ from hheap]
        simp only []
        rw [Array.getElem?_eq_getElem (by rw [hsz]; exact hj)]
        rfl
      · unfold World.frozen?
        rw [show (w.drew.alloc _).heap[w.heap.size]? = _ from hheap]
        simp
    · intro j hj
      unfold World.cell?
      rw [show (w.drew.alloc _).heap[w.heap.size]? = _ from hheap]
      simp only []
      rw [Array.getElem?_append_left (by simp at hj ⊢; omega)]
      by_cases ej : j < xs.length
      · rw [Array.getElem?_append_left (by simpa using ej), List.getD_eq_getElem?_getD, List.getElem?_append_left ej]
        rw [List.getElem?_toArray, List.getElem?_map, List.getElem?_eq_getElem ej]; rfl
      · obtain rfl : j = xs.length := by omega
        rw [Array.getElem?_append_right (by simp)]
        simp
theorem byts_kept {w w' : World} {base : Nat} {v : Value} {xs : List Int} (h : Byts w base v xs) (hb : Below w.heap.size w w') : Byts w' base v xs := by
  obtain ⟨g, cap, rfl, hg, hgs, hn, hcm, hcf, hx⟩ := h
  refine ⟨g, cap, rfl, hg, Nat.lt_of_lt_of_le hgs hb.size, hn, hcm, fun j hj => ?_, fun j hj => (hb.cell (p := ⟨g, j, none⟩) hgs).trans (hx j hj)⟩
  have hk := hb.block g hgs
  have hf : w'.frozen? ⟨g, j, none⟩ = w.frozen? ⟨g, j, none⟩ := by unfold World.frozen?; simp only [hk]
  rw [hb.cell (p := ⟨g, j, none⟩) hgs, hf]
  exact hcf j hj
theorem wpList_byts {P : Program} {ops : Array Oper} {rest : List Oper} {o : Oper} {a : Act} {Q : Exit → Act → World → Prop} (hgd : o.guard = none) (s x : Operand) (t : TypeId)
    (ho : o.op = .call { callee := .builtin .append, args := #[s, x], argTypes := #[t, t] }) (e : TypeId) (i : TypeInfo) (ht : P.underlying t = some (.slice e)) (hi : P.info? e = some i) (hz : i.zero = some (.int .u8 0)) (hs1 : i.size = 1) (hby : i.bytes = 1)
    (w : World) (base : Nat) (v : Value) (xs : List Int) (hs : a.eval s = v) (hb : Byts w base v xs) (hl : xs.length ≤ 1000000) (hbase : base ≤ w.heap.size) (ad : Addr) (c : Nat) (z : Int) (hx : a.eval x = .slice (some ad) 1 c) (ha : w.cell? ad = some (.int .u8 z))
    (h : ∀ v' w', Byts w' base v' (xs ++ [z]) → Below base w w' → wpList P ops Q rest (a.put o.dst v') w') : wpList P ops Q (o :: rest) a w := by
  refine wpList_plain hgd fun K hK => ?_
  obtain ⟨v', w', hr, h2, h3⟩ := byts_append (P := P) t o.type e i ht hi hz hs1 hby w base v xs hb hl hbase ad c z ha
  unfold Oper.wp execOp
  simp only [ho, resolve, invoke, builtin, Sem.run_bind, Sem.run_pure, Result.andThen_ok, List.map_toArray, List.map_cons, List.map_nil, hs, hx, hr]
  exact hK _ _ (h v' w' h2 h3)
/-- what a conversion made may be written -/
theorem byts_conv (w w1 : World) (t : ByteArray) (c : Nat) (e : TypeId) (hc : t.size ≤ c) (hcm : c ≤ maxLen) (base : Nat) (hb : base ≤ w1.heap.size) :
    Byts (w1.drew.alloc (.cells (bytesRow t c) e (c, c + 1))) base (.slice (some ⟨w1.heap.size, 0, none⟩) t.size c) (nx t) := by
  have hbs : (bytesRow t c).size = c := by unfold bytesRow; simp; show t.size + (c - t.size) = c; omega
  have hl := nx_len t
  refine ⟨w1.heap.size, c, by rw [hl], hb, by simp, by omega, hcm, fun j hj => ⟨?_, ?_⟩, fun j hj => ?_⟩
  · have := World.cell?_alloc_mark w1.drew (bytesRow t c) e (c, c + 1) j
    rw [show (w1.drew.alloc (.cells (bytesRow t c) e (c, c + 1))).cell? ⟨w1.heap.size, j, none⟩ = _ from this, Array.getElem?_eq_getElem (by rw [hbs]; exact hj)]
    rfl
  · have := World.frozen?_alloc_mark w1.drew (bytesRow t c) e c (c + 1) j
    refine (show (w1.drew.alloc (.cells (bytesRow t c) e (c, c + 1))).frozen? ⟨w1.heap.size, j, none⟩ = _ from this).trans ?_
    rw [decide_eq_false (by omega), Bool.false_and]
  · rw [hl] at hj
    have := World.cell?_alloc_mark w1.drew (bytesRow t c) e (c, c + 1) j
    rw [bytesRow_at t c j hj] at this
    refine (show (w1.drew.alloc (.cells (bytesRow t c) e (c, c + 1))).cell? ⟨w1.heap.size, j, none⟩ = _ from this).trans ?_
    rw [nx_at t hj, byt_in hj]
    rfl
theorem nx_pad (s : ByteArray) (q : Nat) : nx (padT s q) = nx s ++ List.replicate (q + 1 - s.size) 0 := by
  unfold nx padT
  simp
theorem rep_snoc (xs : List Int) (m : Nat) : (xs ++ List.replicate m 0) ++ [0] = xs ++ List.replicate (m + 1) 0 := by
  rw [List.append_assoc, List.replicate_succ']
end Go.Proofs.Ytnpkegmkmhambaa
