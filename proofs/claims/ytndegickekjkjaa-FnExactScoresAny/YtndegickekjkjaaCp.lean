/- Rows of structs copied; one element put into a row of one's own: where there is room, and where there is none. Plain facts: no Go text here. -/
import Derived.Test.YtndegickekjkjaaDl
import Derived.Laws.CopyOwn
import Derived.Lib.AppendZerosOnto
import Derived.Lib.Overlaps
namespace Go.Proofs.Ytndegickekjkjaa
open Go.RowKit

theorem run_copy_N {P : Program} (w : World) (dT sT ty elem : TypeId) (sz g o dLen dCap : Nat) (a : Addr) (sLen sCap n : Nat) (cur : Array Value) (t : TypeId) (cs : List Value)
    (hu : P.underlying dT = some (.slice elem)) (i : TypeInfo) (hi : P.info? elem = some i) (hs : i.size = sz)
    (hg : w.heap[g]? = some (.cells cur t (0, 0))) (hm : Nat.min sLen dLen = n) (hn : cs.length = n * sz)
    (hsrc : ∀ j v, cs[j]? = some v → w.cell? (a.add j) = some v) (hfit : o + cs.length ≤ cur.size) (h1 : ∀ v ∈ cs, v.oneCell' = true) :
    (Builtin.copy_ #[dT, sT] ty #[.slice (some ⟨g, o, none⟩) dLen dCap, .slice (some a) sLen sCap]).run P w =
      .ok (goInt n) (w.setRow g (splice cur.toList o cs).toArray) := by
  have hl := run_firstCells_some (P := P) (w := w) sz n a sLen sCap cs hn hsrc
  have hst := run_storeCells_at P g o t cs 0 cur w hg (by simpa using hfit) h1
  simp [Builtin.copy_, run_underlying hu, Builtin.lenOf, sizeOf, typeInfo, hi, hs, hm, hl, hst, splice]
theorem wpList_copy_N {P : Program} {w : World} {ops : Array Oper} {rest : List Oper} {o : Oper} {a : Act} {Q : Exit → Act → World → Prop} (hgd : o.guard = none) (d s : Operand) (dT sT : TypeId)
    (ho : o.op = .call { callee := .builtin .copy, args := #[d, s], argTypes := #[dT, sT] }) (elem : TypeId) (sz : Nat) (hu : P.underlying dT = some (.slice elem)) (i : TypeInfo) (hi : P.info? elem = some i) (hsz : i.size = sz)
    (g off dLen dCap : Nat) (ad : Addr) (sLen sCap n : Nat) (hd : a.eval d = .slice (some ⟨g, off, none⟩) dLen dCap) (hs : a.eval s = .slice (some ad) sLen sCap)
    (cur : Array Value) (t : TypeId) (hg : w.heap[g]? = some (.cells cur t (0, 0))) (cs : List Value) (hm : Nat.min sLen dLen = n) (hn : cs.length = n * sz)
    (hsrc : ∀ j v, cs[j]? = some v → w.cell? (ad.add j) = some v) (hfit : off + cs.length ≤ cur.size) (h1 : ∀ v ∈ cs, v.oneCell' = true)
    (h : wpList P ops Q rest (a.put o.dst (goInt n)) (w.setRow g (splice cur.toList off cs).toArray)) : wpList P ops Q (o :: rest) a w := by
  refine wpList_plain hgd fun K hK => ?_
  have hrun := run_copy_N (P := P) w dT sT o.type elem sz g off dLen dCap ad sLen sCap n cur t cs hu i hi hsz hg hm hn hsrc hfit h1
  unfold Oper.wp execOp
  simp only [ho, resolve, invoke, builtin, Sem.run_bind, Sem.run_pure, Result.andThen_ok, List.map_toArray, List.map_cons, List.map_nil, hd, hs, hrun]
  exact hK _ _ h
theorem step_copy_N {P : Program} {ops : Array Oper} {o : Oper} {a : Act} {w : World} {K : Act → World → Prop} {Q : Exit → Act → World → Prop} {E : Prop} (hgd : o.guard = none) (d s : Operand) (dT sT : TypeId)
    (ho : o.op = .call { callee := .builtin .copy, args := #[d, s], argTypes := #[dT, sT] }) (elem : TypeId) (sz : Nat) (hu : P.underlying dT = some (.slice elem)) (i : TypeInfo) (hi : P.info? elem = some i) (hsz : i.size = sz)
    (g off dLen dCap : Nat) (ad : Addr) (sLen sCap n : Nat) (hd : a.eval d = .slice (some ⟨g, off, none⟩) dLen dCap) (hs : a.eval s = .slice (some ad) sLen sCap)
    (cur : Array Value) (t : TypeId) (hg : w.heap[g]? = some (.cells cur t (0, 0))) (cs : List Value) (hm : Nat.min sLen dLen = n) (hn : cs.length = n * sz)
    (hsrc : ∀ j v, cs[j]? = some v → w.cell? (ad.add j) = some v) (hfit : off + cs.length ≤ cur.size) (h1 : ∀ v ∈ cs, v.oneCell' = true)
    (hK : K (a.put o.dst (goInt n)) (w.setRow g (splice cur.toList off cs).toArray)) :
    if Region.wanted o (yielded ops a.tmps) = true then Oper.wp P o a w K Q else E := by
  have hw : Region.wanted o (yielded ops a.tmps) = true := by simp [Region.wanted, hgd]
  rw [if_pos hw]
  have hrun := run_copy_N (P := P) w dT sT o.type elem sz g off dLen dCap ad sLen sCap n cur t cs hu i hi hsz hg hm hn hsrc hfit h1
  unfold Oper.wp execOp
  simp only [ho, resolve, invoke, builtin, Sem.run_bind, Sem.run_pure, Result.andThen_ok, List.map_toArray, List.map_cons, List.map_nil, hd, hs, hrun]
  exact hK

section
variable {α : Type} {c : α → List Value} {sz : Nat} {e : TypeId}
/-- the row behind both copies, where there was room -/
theorem splice_room (cur X Y Z : List Value) (p q : Nat) (hp : p ≤ cur.length) (hX : cur.take p = X) (hY : Y.length = q) (hfit : p + q + Z.length ≤ cur.length) :
    splice (splice cur (p + q) Z) p Y = X ++ Y ++ Z ++ cur.drop (p + q + Z.length) := by
  unfold splice
  rw [hY]
  have e1 : (cur.take (p + q) ++ (Z ++ cur.drop (p + q + Z.length))).take p = X := by
    rw [List.take_append_of_le_length (by rw [List.length_take]; omega), List.take_take, Nat.min_eq_left (by omega), hX]
  have e2 : (cur.take (p + q) ++ (Z ++ cur.drop (p + q + Z.length))).drop (p + q) = Z ++ cur.drop (p + q + Z.length) := by
    rw [List.drop_append, List.drop_of_length_le (by rw [List.length_take]; omega), List.length_take, Nat.min_eq_left (by omega), Nat.sub_self]; rfl
  rw [e1, e2]; simp
/-- the row behind both copies, where it was made anew -/
theorem splice_new (X O Y Z T : List Value) (p q : Nat) (hX : X.length = p) (hY : Y.length = q) (hO : O.length = q + Z.length) :
    splice (splice (X ++ O ++ T) p Y) (p + q) Z = X ++ Y ++ Z ++ T := by
  unfold splice
  rw [hY]
  have e1 : (X ++ O ++ T).take p = X := by rw [List.append_assoc, List.take_append_of_le_length (by omega), List.take_of_length_le (by omega)]
  have e2 : (X ++ O ++ T).drop (p + q) = O.drop q ++ T := by
    rw [List.append_assoc, List.drop_append, List.drop_of_length_le (by omega), hX, show p + q - p = q by omega, List.drop_append_of_le_length (by omega)]; rfl
  rw [e1, e2]
  have e3 : (X ++ (Y ++ (O.drop q ++ T))).take (p + q) = X ++ Y := by
    rw [← List.append_assoc, List.take_append_of_le_length (by rw [List.length_append]; omega), List.take_of_length_le (by rw [List.length_append]; omega)]
  have e4 : (X ++ (Y ++ (O.drop q ++ T))).drop (p + q + Z.length) = T := by
    rw [← List.append_assoc, ← List.append_assoc, List.drop_append, List.drop_of_length_le (by rw [List.length_append, List.length_append, List.length_drop]; omega), List.length_append, List.length_append, List.length_drop]
    rw [show p + q + Z.length - (X.length + Y.length + (O.length - q)) = 0 by omega]; rfl
  rw [e3, e4]; simp
theorem ins_flat (l : List α) (i : Nat) (y : α) : (l.take i ++ y :: l.drop i).flatMap c = (l.take i).flatMap c ++ c y ++ (l.drop i).flatMap c := by simp
theorem ins_len (l : List α) (i : Nat) (y : α) (hi : i ≤ l.length) : (l.take i ++ y :: l.drop i).length = l.length + 1 := by simp; omega
/-- a row whose first cells are those of L -/
theorem own_made {w : World} {base g cap : Nat} {L : List α} (hsz : ∀ x, (c x).length = sz) (T : List Value) (hg : w.heap[g]? = some (.cells (L.flatMap c ++ T).toArray e (0, 0))) (hb : base ≤ g) (hnc : L.length ≤ cap) (hcm : cap ≤ maxLen) (hT : T.length = (cap - L.length) * sz) :
    OwnsR c sz e w base (.slice (some ⟨g, 0, none⟩) L.length cap) L := by
  refine ⟨flat_len hsz L, .inr ⟨g, cap, _, rfl, hb, hg, hnc, hcm, ?_, ?_⟩⟩
  · rw [List.size_toArray, List.length_append, flat_len hsz, hT, ← Nat.add_mul]; congr 1; omega
  · rw [List.toList_toArray, List.take_append_of_le_length (by rw [flat_len hsz]; exact Nat.le_refl _), List.take_of_length_le (by rw [flat_len hsz]; exact Nat.le_refl _)]
end
end Go.Proofs.Ytndegickekjkjaa
