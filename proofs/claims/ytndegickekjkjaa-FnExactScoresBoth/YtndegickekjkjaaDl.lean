/- A row of one's own, of which one element is taken out in place: the rest moves up. Plain facts: no Go text here. -/
import Derived.Test.YtndegickekjkjaaRz
import Derived.Laws.AppendOwn
import Derived.Lib.SliceRun
import Derived.Laws.IdiomCopy
import Derived.Deep.RegionHeld3
namespace Go.Proofs.Ytndegickekjkjaa
open Go.RowKit

section
variable {α : Type} {c : α → List Value} {sz : Nat} {e : TypeId}
theorem flat_take (hsz : ∀ x, (c x).length = sz) : ∀ (l : List α) (k : Nat), (l.flatMap c).take (k * sz) = (l.take k).flatMap c
  | [], k => by simp
  | x :: l, 0 => by simp
  | x :: l, k + 1 => by
    rw [List.flatMap_cons, List.take_succ_cons, List.flatMap_cons, Nat.add_mul, Nat.one_mul, List.take_append, List.take_of_length_le (by rw [hsz]; omega), hsz, Nat.add_sub_cancel, flat_take hsz l k]
theorem flat_drop (hsz : ∀ x, (c x).length = sz) : ∀ (l : List α) (k : Nat), (l.flatMap c).drop (k * sz) = (l.drop k).flatMap c
  | [], k => by simp
  | x :: l, 0 => by simp
  | x :: l, k + 1 => by
    rw [List.flatMap_cons, List.drop_succ_cons, Nat.add_mul, Nat.one_mul, List.drop_append, List.drop_of_length_le (by rw [hsz]; omega), hsz, Nat.add_sub_cancel, flat_drop hsz l k, List.nil_append]

theorem grown_setRow {w : World} {g : Nat} (cs : Array Value) : w.grownBy (w.setRow g cs) (some g) := by
  refine ⟨rfl, rfl, rfl, ?_, fun k hk hne => ?_⟩
  · show _ ≤ (w.heap.modify g _).size
    rw [Array.size_modify]; exact Nat.le_refl _
  · show (w.heap.modify g _)[k]? = _
    rw [Array.getElem?_modify, if_neg (by intro e; exact hne (by rw [e]))]

/-- the rows behind i moved up by one; the last one stands twice -/
theorem own_moved (hsz : ∀ x, (c x).length = sz) {w : World} {base g cap i : Nat} {l : List α} (ho : OwnsR c sz e w base (.slice (some ⟨g, 0, none⟩) l.length cap) l) (hi : i < l.length) :
    ∃ cur : Array Value, w.heap[g]? = some (.cells cur e (0, 0)) ∧ i * sz + ((l.drop (i + 1)).flatMap c).length ≤ cur.size ∧
      OwnsR c sz e (w.setRow g (cur.toList.take (i * sz) ++ (l.drop (i + 1)).flatMap c ++ cur.toList.drop (i * sz + ((l.drop (i + 1)).flatMap c).length)).toArray) base (.slice (some ⟨g, 0, none⟩) l.length cap) (l.eraseIdx i ++ l.drop (l.length - 1)) := by
  rcases ho.2 with ⟨h, _⟩ | ⟨g', cap', cur, hv, hbg, hg, hnc, hcm, hcs, ht⟩
  · cases h
  · simp only [Value.slice.injEq, Option.some.injEq, Addr.mk.injEq, and_true, true_and] at hv
    obtain ⟨rfl, rfl⟩ := hv
    have hF : ((l.drop (i + 1)).flatMap c).length = (l.length - (i + 1)) * sz := by rw [flat_len hsz]; simp
    have e1 : i * sz + (l.length - (i + 1)) * sz = (l.length - 1) * sz := by rw [← Nat.add_mul]; congr 1; omega
    have e2 : (l.length - 1) * sz + sz = l.length * sz := by
      have := Nat.succ_mul (l.length - 1) sz
      rw [show (l.length - 1).succ = l.length by omega] at this; omega
    have hle : l.length * sz ≤ cap * sz := Nat.mul_le_mul_right sz hnc
    refine ⟨cur, hg, by rw [hF, e1, hcs]; omega, ?_⟩
    have hL : (l.eraseIdx i ++ l.drop (l.length - 1)).length = l.length := by
      rw [List.length_append, List.length_eraseIdx, if_pos hi, List.length_drop]; omega
    unfold OwnsR
    rw [hL]
    have hlc : cur.toList.length = cap * sz := by simpa using hcs
    have a1 : cur.toList.take (i * sz) = (l.take i).flatMap c := by
      rw [← flat_take hsz, ← ht, List.take_take, Nat.min_eq_left (Nat.mul_le_mul_right sz (by omega))]
    have a2 : (cur.toList.drop ((l.length - 1) * sz)).take sz = (l.drop (l.length - 1)).flatMap c := by
      rw [← flat_drop hsz, ← ht, List.drop_take]
      congr 1; omega
    refine ⟨by rw [flat_len hsz, hL], .inr ⟨g, cap, _, rfl, hbg, heap_setRowR hg, hnc, hcm, ?_, ?_⟩⟩
    · rw [List.size_toArray, List.length_append, List.length_append, List.length_take, List.length_drop, hF, hlc, e1]
      have : i * sz ≤ cap * sz := Nat.mul_le_mul_right sz (by omega)
      omega
    · rw [List.toList_toArray, hF, e1, a1, List.eraseIdx_eq_take_drop_succ, List.flatMap_append, List.flatMap_append, ← a2]
      have hh : ((l.take i).flatMap c ++ (l.drop (i + 1)).flatMap c).length = (l.length - 1) * sz := by
        rw [List.length_append, hF, flat_len hsz, List.length_take, Nat.min_eq_left (by omega), e1]
      rw [List.take_append, List.take_of_length_le (by rw [hh]; omega), hh]
      congr 2; omega
/-- the first of a row alone -/
theorem own_short (hsz : ∀ x, (c x).length = sz) {w : World} {base g cap n : Nat} {l : List α} (ho : OwnsR c sz e w base (.slice (some ⟨g, 0, none⟩) l.length cap) l) (hn : n ≤ l.length) : OwnsR c sz e w base (.slice (some ⟨g, 0, none⟩) n cap) (l.take n) := by
  rcases ho.2 with ⟨h, _⟩ | ⟨g', cap', cur, hv, hbg, hg, hnc, hcm, hcs, ht⟩
  · cases h
  · simp only [Value.slice.injEq, Option.some.injEq, Addr.mk.injEq, and_true, true_and] at hv
    obtain ⟨rfl, rfl⟩ := hv
    have hl : (l.take n).length = n := by simp; omega
    unfold OwnsR
    rw [hl]
    refine ⟨by rw [flat_len hsz, hl], .inr ⟨g, cap, cur, rfl, hbg, hg, by omega, hcm, hcs, ?_⟩⟩
    rw [← flat_take hsz, ← ht, List.take_take, Nat.min_eq_left (Nat.mul_le_mul_right sz hn)]
end

/-- append where there is room, from the head of a row that is known whole, as one step of a region that draws -/
theorem step_append_row {P : Program} {ops : Array Oper} {o : Oper} {a : Act} {w : World} {K : Act → World → Prop} {Q : Exit → Act → World → Prop} {E : Prop}
    (hgd : o.guard = none) (s x : Operand) (t : TypeId) (hop : o.op = Op.call { callee := Callee.builtin Builtin.append, args := #[s, x], argTypes := #[t, t] })
    (e : TypeId) (i : TypeInfo) (size : Nat) (h1 : P.underlying t = some (.slice e)) (h2 : P.info? e = some i) (h4 : i.size = size)
    (g n cap : Nat) (cur : Array Value) (hg : w.heap[g]? = some (.cells cur e (0, 0))) (hs : a.eval s = .slice (some ⟨g, 0, none⟩) n cap)
    (ad : Addr) (m c : Nat) (news : List Value) (hx : a.eval x = .slice (some ad) m c) (hn : news.length = m * size) (hc : ∀ j u, news[j]? = some u → w.cell? (ad.add j) = some u) (h1c : ∀ u ∈ news, u.oneCell' = true)
    (hroom : n + m ≤ cap) (hfit : n * size + news.length ≤ cur.size)
    (hK : K (a.put o.dst (.slice (some ⟨g, 0, none⟩) (n + m) cap)) (w.setRow g (cur.toList.take (n * size) ++ news ++ cur.toList.drop (n * size + news.length)).toArray)) :
    if Region.wanted o (yielded ops a.tmps) = true then Oper.wp P o a w K Q else E := by
  have hw : Region.wanted o (yielded ops a.tmps) = true := by simp [Region.wanted, hgd]
  rw [if_pos hw]
  subst h4
  have hrun := run_append_room (P := P) w t o.type e i h1 h2 g n cap cur hg ad m c news hn hc h1c hroom hfit
  unfold Oper.wp execOp
  simp only [hop, resolve, invoke, builtin, Sem.run_bind, Sem.run_pure, Result.andThen_ok, List.map_toArray, List.map_cons, List.map_nil, hs, hx, hrun]
  exact hK

theorem run_clear_two {P : Program} (w : World) (t e ty : TypeId) (z0 z1 : Value) (ht : P.underlying t = some (.slice e)) (hv : ∀ w, (zeroValue e).run P w = .ok (.agg #[z0, z1]) w) (h0 : z0.oneCell' = true) (h1 : z1.oneCell' = true) (b o c : Nat)
    (hc0 : (w.cell? ⟨b, o, none⟩).isSome = true) (hc1 : (w.cell? ⟨b, o + 1, none⟩).isSome = true) (hf0 : w.frozen? ⟨b, o, none⟩ = false) (hf1 : w.frozen? ⟨b, o + 1, none⟩ = false) :
    (Builtin.clear_ #[t] ty #[.slice (some ⟨b, o, none⟩) 1 c]).run P w = .ok (.tuple #[]) ((w.setCell ⟨b, o, none⟩ z0).setCell ⟨b, o + 1, none⟩ z1) := by
  have hzc : (Builtin.zeroCells (Value.agg #[z0, z1]).cells 1).toList = [z0, z1] := by
    simp [Builtin.zeroCells, Value.cells, Array.range]
  have hst := run_storeCells_cells (P := P) b o [z0, z1] 0 w (by intro j hj; match j, hj with | 0, _ => exact hc0 | 1, _ => exact hc1) (by intro j hj; match j, hj with | 0, _ => exact hf0 | 1, _ => exact hf1) (by intro v hv'; simp only [List.mem_cons, List.not_mem_nil, or_false] at hv'; rcases hv' with rfl | rfl; (exact h0); exact h1)
  simp only [Nat.add_zero] at hst
  simp [Builtin.clear_, run_underlying ht, hv, hzc, hst]
  rfl
end Go.Proofs.Ytndegickekjkjaa
