/- Several texts in one: Cp PrCl PrDe PrWo PrH PrDr PrI PrJ PrP PrPo PrQ PrIn PrWi PrWj PrWk PrR PrS. -/
import Derived.Test.YtdaahcenplepjaaDl
import Derived.Laws.CopyOwn
import Derived.Lib.AppendZerosOnto
import Derived.Lib.Overlaps
import Derived.Test.YtdaahcenplepjaaPrB
import Derived.Maps.AppendAt
import Derived.Laws.AppendOwnNone
import Derived.Lib.SliceRun
import Derived.Test.YtdaahcenplepjaaTk
import Derived.Test.YtdaahcenplepjaaPrF
import Derived.Test.YtdaahcenplepjaaBx
import Derived.Test.YtdaahcenplepjaaAq
import Derived.Test.YtdaahcenplepjaaPrC
import Derived.Test.YtdaahcenplepjaaAp
import Derived.Test.YtdaahcenplepjaaPrD
import Derived.Test.YtdaahcenplepjaaPrE
import Derived.OwnWalk
/- Rows of structs copied; one element put into a row of one's own: where there is room, and where there is none. Plain facts: no Go text here. -/
namespace Go.Proofs.Ytdaahcenplepjaa
open Go.RowKit

theorem run_copy_N {P : Program} (w : World) (dT sT ty elem : TypeId) (sz g o dLen dCap : Nat) (a : Addr) (sLen sCap n : Nat) (cur : Array Value) (t : TypeId) (cs : List Value)
    (hu : P.underlying dT = some (.slice elem)) (i : TypeInfo) (hi : P.info? elem = some i) (hs : i.size = sz)
    (hg : w.heap[g]? = some (.cells cur t (0, 0))) (hm : Nat.min sLen dLen = n) (hn : cs.length = n * sz)
    (hsrc : ∀ j v, cs[j]? = some v → w.cell? (a.add j) = some v) (hfit : o + cs.length ≤ cur.size) (h1 : ∀ v ∈ cs, v.oneCell' = true) :
    (Builtin.copy_ #[dT, sT] ty #[.slice (some ⟨g, o, none⟩) dLen dCap, .slice (some a) sLen sCap]).run P w =
      .ok (goInt n) (w.setRow g (splice cur.toList o cs).toArray) := by
  have hl := run_firstCells_some (P := P) (w := w) sz n a sLen sCap cs hn hsrc
  have hst := run_storeCells_at P g o t cs 0 cur w hg (by simpa using hfit) h1
  simp [Builtin.copy_, run_underlying hu, Builtin.lenOf, sizeOf, typeInfo, hi, hs, hm, hl, hst, splice]
theorem wpList_copy_N {P : Program} {w : World} {ops : Array Oper} {rest : List Oper} {o : Oper} {a : Act} {Q : Exit → Act → World → Prop} (hgd : o.guard = none) (d s : Operand) (dT sT : TypeId)
    (ho : o.op = .call { callee := .builtin .copy, args := #[d, s], argTypes := #[dT, sT] }) (elem : TypeId) (sz : Nat) (hu : P.underlying dT = some (.slice elem)) (i : TypeInfo) (hi : P.info? elem = some i) (hsz : i.size = sz)
    (g off dLen dCap : Nat) (ad : Addr) (sLen sCap n : Nat) (hd : a.eval d = .slice (some ⟨g, off, none⟩) dLen dCap) (hs : a.eval s = .slice (some ad) sLen sCap)
    (cur : Array Value) (t : TypeId) (hg : w.heap[g]? = some (.cells cur t (0, 0))) (cs : List Value) (hm : Nat.min sLen dLen = n) (hn : cs.length = n * sz)
    (hsrc : ∀ j v, cs[j]? = some v → w.cell? (ad.add j) = some v) (hfit : off + cs.length ≤ cur.size) (h1 : ∀ v ∈ cs, v.oneCell' = true)
    (h : wpList P ops Q rest (a.put o.dst (goInt n)) (w.setRow g (splice cur.toList off cs).toArray)) : wpList P ops Q (o :: rest) a w := by
  refine wpList_plain hgd fun K hK => ?_
  have hrun := run_copy_N (P := P) w dT sT o.type elem sz g off dLen dCap ad sLen sCap n cur t cs hu i hi hsz hg hm hn hsrc hfit h1
  unfold Oper.wp execOp
  simp only [ho, resolve, invoke, builtin, Sem.run_bind, Sem.run_pure, Result.andThen_ok, List.map_toArray, List.map_cons, List.map_nil, hd, hs, hrun]
  exact hK _ _ h
theorem step_copy_N {P : Program} {ops : Array Oper} {o : Oper} {a : Act} {w : World} {K : Act → World → Prop} {Q : Exit → Act → World → Prop} {E : Prop} (hgd : o.guard = none) (d s : Operand) (dT sT : TypeId)
    (ho : o.op = .call { callee := .builtin .copy, args := #[d, s], argTypes := #[dT, sT] }) (elem : TypeId) (sz : Nat) (hu : P.underlying dT = some (.slice elem)) (i : TypeInfo) (hi : P.info? elem = some i) (hsz : i.size = sz)
    (g off dLen dCap : Nat) (ad : Addr) (sLen sCap n : Nat) (hd : a.eval d = .slice (some ⟨g, off, none⟩) dLen dCap) (hs : a.eval s = .slice (some ad) sLen sCap)
    (cur : Array Value) (t : TypeId) (hg : w.heap[g]? = some (.cells cur t (0, 0))) (cs : List Value) (hm : Nat.min sLen dLen = n) (hn : cs.length = n * sz)
    (hsrc : ∀ j v, cs[j]? = some v → w.cell? (ad.add j) = some v) (hfit : off + cs.length ≤ cur.size) (h1 : ∀ v ∈ cs, v.oneCell' = true)
    (hK : K (a.put o.dst (goInt n)) (w.setRow g (splice cur.toList off cs).toArray)) :
    if Region.wanted o (yielded ops a.tmps) = true then Oper.wp P o a w K Q else E := by
  have hw : Region.wanted o (yielded ops a.tmps) = true := by simp [Region.wanted, hgd]
  rw [if_pos hw]
  have hrun := run_copy_N (P := P) w dT sT o.type elem sz g off dLen dCap ad sLen sCap n cur t cs hu i hi hsz hg hm hn hsrc hfit h1
  unfold Oper.wp execOp
  simp only [ho, resolve, invoke, builtin, Sem.run_bind, Sem.run_pure, Result.andThen_ok, List.map_toArray, List.map_cons, List.map_nil, hd, hs, hrun]
  exact hK

section
variable {α : Type} {c : α → List Value} {sz : Nat} {e : TypeId}
/-- the row behind both copies, where there was room -/
theorem splice_room (cur X Y Z : List Value) (p q : Nat) (hp : p ≤ cur.length) (hX : cur.take p = X) (hY : Y.length = q) (hfit : p + q + Z.length ≤ cur.length) :
    splice (splice cur (p + q) Z) p Y = X ++ Y ++ Z ++ cur.drop (p + q + Z.length) := by
  unfold splice
  rw [hY]
  have e1 : (cur.take (p + q) ++ (Z ++ cur.drop (p + q + Z.length))).take p = X := by
    rw [List.take_append_of_le_length (by rw [List.length_take]; omega), List.take_take, Nat.min_eq_left (by omega), hX]
  have e2 : (cur.take (p + q) ++ (Z ++ cur.drop (p + q + Z.length))).drop (p + q) = Z ++ cur.drop (p + q + Z.length) := by
    rw [List.drop_append, List.drop_of_length_le (by rw [List.length_take]; omega), List.length_take, Nat.min_eq_left (by omega), Nat.sub_self]; rfl
  rw [e1, e2]; simp
/-- the row behind both copies, where it was made anew -/
theorem splice_new (X O Y Z T : List Value) (p q : Nat) (hX : X.length = p) (hY : Y.length = q) (hO : O.length = q + Z.length) :
    splice (splice (X ++ O ++ T) p Y) (p + q) Z = X ++ Y ++ Z ++ T := by
  unfold splice
  rw [hY]
  have e1 : (X ++ O ++ T).take p = X := by rw [List.append_assoc, List.take_append_of_le_length (by omega), List.take_of_length_le (by omega)]
  have e2 : (X ++ O ++ T).drop (p + q) = O.drop q ++ T := by
    rw [List.append_assoc, List.drop_append, List.drop_of_length_le (by omega), hX, show p + q - p = q by omega, List.drop_append_of_le_length (by omega)]; rfl
  rw [e1, e2]
  have e3 : (X ++ (Y ++ (O.drop q ++ T))).take (p + q) = X ++ Y := by
    rw [← List.append_assoc, List.take_append_of_le_length (by rw [List.length_append]; omega), List.take_of_length_le (by rw [List.length_append]; omega)]
  have e4 : (X ++ (Y ++ (O.drop q ++ T))).drop (p + q + Z.length) = T := by
    rw [← List.append_assoc, ← List.append_assoc, List.drop_append, List.drop_of_length_le (by rw [List.length_append, List.length_append, List.length_drop]; omega), List.length_append, List.length_append, List.length_drop]
    rw [show p + q + Z.length - (X.length + Y.length + (O.length - q)) = 0 by omega]; rfl
  rw [e3, e4]; simp
theorem ins_flat (l : List α) (i : Nat) (y : α) : (l.take i ++ y :: l.drop i).flatMap c = (l.take i).flatMap c ++ c y ++ (l.drop i).flatMap c := by simp
theorem ins_len (l : List α) (i : Nat) (y : α) (hi : i ≤ l.length) : (l.take i ++ y :: l.drop i).length = l.length + 1 := by simp; omega
/-- a row whose first cells are those of L -/
theorem own_made {w : World} {base g cap : Nat} {L : List α} (hsz : ∀ x, (c x).length = sz) (T : List Value) (hg : w.heap[g]? = some (.cells (L.flatMap c ++ T).toArray e (0, 0))) (hb : base ≤ g) (hnc : L.length ≤ cap) (hcm : cap ≤ maxLen) (hT : T.length = (cap - L.length) * sz) :
    OwnsR c sz e w base (.slice (some ⟨g, 0, none⟩) L.length cap) L := by
  refine ⟨flat_len hsz L, .inr ⟨g, cap, _, rfl, hb, hg, hnc, hcm, ?_, ?_⟩⟩
  · rw [List.size_toArray, List.length_append, flat_len hsz, hT, ← Nat.add_mul]; congr 1; omega
  · rw [List.toList_toArray, List.take_append_of_le_length (by rw [flat_len hsz]; exact Nat.le_refl _), List.take_of_length_le (by rw [flat_len hsz]; exact Nat.le_refl _)]
end
end Go.Proofs.Ytdaahcenplepjaa
/- slices.Clone of rows of Pair. -/
namespace Go.Proofs.Ytdaahcenplepjaa
open Go.RowKit

end Go.Proofs.Ytdaahcenplepjaa
/- slices.Delete of one row of Pair, from a row of one's own. -/
namespace Go.Proofs.Ytdaahcenplepjaa
open Go.RowKit

theorem prZero : ∀ w, (zeroValue 65).run Try.prog w = .ok (.agg #[.string ByteArray.empty, .string ByteArray.empty]) w := Try.zeroValue65

end Go.Proofs.Ytdaahcenplepjaa
/- A table without a row; the program's drop. -/
namespace Go.Proofs.Ytdaahcenplepjaa
open Go.RowKit

def prWo (l : List (ByteArray × ByteArray)) (s : ByteArray) : List (ByteArray × ByteArray) := l.eraseIdx (prIdx l s)
theorem prWo_miss {l : List (ByteArray × ByteArray)} {s : ByteArray} (h : prPlc l s < 0) : prWo l s = l := by
  unfold prWo
  rw [List.eraseIdx_of_length_le]
  unfold prPlc at h
  split at h
  · omega
  · next h' => omega
theorem prPlc_idx {l : List (ByteArray × ByteArray)} {s : ByteArray} (h : 0 ≤ prPlc l s) : prPlc l s = (prIdx l s : Int) ∧ prIdx l s < l.length := by
  unfold prPlc at h ⊢
  split at h
  · next h' => rw [if_pos h']; exact ⟨rfl, h'⟩
  · omega
theorem prWo_len (l : List (ByteArray × ByteArray)) (s : ByteArray) : (prWo l s).length ≤ l.length := by unfold prWo; exact List.length_eraseIdx_le _ _

end Go.Proofs.Ytdaahcenplepjaa
/- The place of a name in a table that is ok: the program's and the model's. -/
namespace Go.Proofs.Ytdaahcenplepjaa
open Go.RowKit

def prFindI (l : List (ByteArray × ByteArray)) (s : ByteArray) : Int := if prOkB l = true then prPlc l s else -1
theorem prPlc_bd (l : List (ByteArray × ByteArray)) (s : ByteArray) : -1 ≤ prPlc l s ∧ prPlc l s < l.length ∨ l.length = 0 ∧ prPlc l s = -1 := by
  unfold prPlc; split
  · left; omega
  · rcases Nat.eq_zero_or_pos l.length with h | h
    · exact .inr ⟨h, rfl⟩
    · left; omega

end Go.Proofs.Ytdaahcenplepjaa
/- A row taken out of a table that is ok: the program's FieldsDrop. -/
namespace Go.Proofs.Ytdaahcenplepjaa
open Go.RowKit

def prDropR (l : List (ByteArray × ByteArray)) (s : ByteArray) : List (ByteArray × ByteArray) := if prOkB l = true then prWo l s else []
def prDropB (l : List (ByteArray × ByteArray)) (s : ByteArray) : Bool := decide (0 ≤ prFindI l s)

end Go.Proofs.Ytdaahcenplepjaa
/- Fields by their names: the model's place of a field; FieldsGet. -/
namespace Go.Proofs.Ytdaahcenplepjaa
open Go.RowKit

/-- how many fields ahead are less than s -/
def prPos (l : List (ByteArray × ByteArray)) (s : ByteArray) : Nat := l.findIdx (fun y => !prLt y.1 s)
def prThere (l : List (ByteArray × ByteArray)) (s : ByteArray) : Bool := decide (prPos l s < l.length) && decide ((prAt l (prPos l s)).1 = s)
def prLow (l : List (ByteArray × ByteArray)) (s : ByteArray) (k : Nat) : Prop := ∀ j, j < k → prLt (prAt l j).1 s = true
theorem prPos_le (l : List (ByteArray × ByteArray)) (s : ByteArray) : prPos l s ≤ l.length := List.findIdx_le_length
theorem prPos_at {l : List (ByteArray × ByteArray)} {s : ByteArray} {k : Nat} (hk : k < l.length) (hl : prLow l s k) (h : prLt (prAt l k).1 s = false) : prPos l s = k := by
  unfold prPos
  rw [List.findIdx_eq hk]
  refine ⟨by rw [← prAt_get hk, h]; rfl, fun j hj => ?_⟩
  have := hl j hj
  rw [prAt_get (by omega)] at this
  rw [this]; rfl
theorem prPos_end {l : List (ByteArray × ByteArray)} {s : ByteArray} (hl : prLow l s l.length) : prPos l s = l.length := by
  unfold prPos
  rw [List.findIdx_eq_length]
  intro x hx
  obtain ⟨j, hj, rfl⟩ := List.getElem_of_mem hx
  have := hl j hj
  rw [prAt_get hj] at this
  rw [this]; rfl
theorem prLow_step {l : List (ByteArray × ByteArray)} {s : ByteArray} {k : Nat} (hn : prLow l s k) (h : prLt (prAt l k).1 s = true) : prLow l s (k + 1) := by
  intro j hj
  by_cases e : j = k
  · rw [e]; exact h
  · exact hn j (by omega)
theorem prPos_low (l : List (ByteArray × ByteArray)) (s : ByteArray) : prLow l s (prPos l s) := by
  intro j hj
  have h1 : j < l.length := Nat.lt_of_lt_of_le hj (prPos_le l s)
  have := List.not_of_lt_findIdx (p := fun y : ByteArray × ByteArray => !prLt y.1 s) (xs := l) hj
  rw [prAt_get h1]
  simpa using this
theorem prAll_of {l : List (ByteArray × ByteArray)} (h : prOkB l = true) : prOkTo l l.length := by
  unfold prOkB prAllB at h
  rw [Bool.and_eq_true, List.all_eq_true] at h
  intro j hj
  exact h.2 j (List.mem_range.2 hj)
/-- in fields that are ok a name is there just at its place -/
theorem prPlc_pos {l : List (ByteArray × ByteArray)} {s : ByteArray} (hok : prOkB l = true) : (prThere l s = true → prPlc l s = (prPos l s : Int)) ∧ (prThere l s = false → prPlc l s = -1) := by
  constructor
  · intro h
    unfold prThere at h
    simp only [Bool.and_eq_true, decide_eq_true_eq] at h
    refine (prPlc_hit h.1 (fun j hj => ?_) h.2).2
    intro e
    have := prPos_low l s j hj
    rw [e, prLt_irrefl] at this; cases this
  · intro h
    refine prPlc_none (fun j hj e => ?_)
    have hlow : prLow l s j := by
      intro i hi
      have := prAsc_to (prAll_of hok) (j - i - 1) i (by omega)
      rw [show i + (j - i - 1) + 1 = j by omega, e] at this
      exact this
    have hp := prPos_at hj hlow (by rw [e]; exact prLt_irrefl s)
    unfold prThere at h
    rw [hp, e] at h
    simp [hj] at h

set_option maxHeartbeats 4000000 in
set_option maxRecDepth 100000 in
theorem l3At_any (v : Value) (l : List (ByteArray × ByteArray)) (s : ByteArray) (w : World) (hr : PrReads w v l) (hlen : l.length ≤ 1048576) :
    Calls Try.prog 36 #[v, .string s] w fun e w' => e = .returned (.tuple #[.int .i64 (prPos l s : Int), .bool (prThere l s)]) ∧ Below w.heap.size w w' := by
  obtain ⟨ao, cap, rfl⟩ := readsR_shape hr
  go_enter Try.func36, Try.ntmps36
  go_wp2_with fail
  go_loopw [6] (fun i wr => ∃ k : Nat, k ≤ l.length ∧ i = .int .i64 k ∧ prLow l s k ∧ w = wr) (fun i _ => l.length - (intOf i).toNat)
  case atStart => exact ⟨0, Nat.zero_le _, rfl, fun j hj => by omega, rfl⟩
  case round =>
    obtain ⟨k, hk, rfl, hno, rfl⟩ := hrel
    by_cases hlt : k < l.length
    · have hk1 : (k : Int) < (l.length : Int) := by omega
      obtain ⟨b, off, rfl, hb, _, _, hc⟩ := pr_some hr (by omega)
      have hc0 := (pr_cells hc hlt).1
      clear hc
      cases hA : Op.bytesLess (prAt l k).1.toList s.toList with
      | true =>
        have HN : Hid (prLow l s (k + 1)) := prLow_step hno hA
        go_wp2_with fail
        go_roundw
        case rel => exact ⟨k + 1, hlt, by go_num, HN.out, by trivial⟩
        case measure => simp [intOf]; omega
      | false =>
        have HP : Hid (prPos l s = k) := prPos_at hlt hno hA
        have hd : decide ((k : Int) < (l.length : Int)) = true := by simpa using hk1
        go_wp2_with fail
        cases hs : ((prAt l k).1.toList == s.toList) with
        | true =>
          have HT : Hid (prThere l s = true) := by show _ = _; unfold prThere; rw [HP.out, decide_eq_true hlt, decide_eq_true (pr_sEq hs)]; rfl
          refine wp_region_held_drew (S := (fun w' => w'.cell? ⟨b, off + k * 2, none⟩ = some (.string (prAt l k).1))) (by kernel_rfl) (by exact hc0) (fun hHeld => ?_)
          refine takeH (i := 0) (d := (some 22)) (v := ?_) rfl rfl (by kernel_rfl) (by kernel_rfl) (by kernel_rfl) (fun _ _ _ h => h) (by kernel_rfl) ?_ (by assumption) ?_
          rotate_left
          · (intro w hSw; (try dsimp only at hSw); go_simp; try with_reducible rfl)
          try simp only [Act.put, List.setIfInBounds_toArray, List.set_cons_succ, List.set_cons_zero]
          refine takeH (i := 1) (d := (some 23)) (v := ?_) rfl rfl (by kernel_rfl) (by kernel_rfl) (by kernel_rfl) (fun _ _ _ h => h) (by kernel_rfl) ?_ (by assumption) ?_
          rotate_left
          · (intro w hSw; (try dsimp only at hSw); go_simp; try with_reducible rfl)
          try simp only [Act.put, List.setIfInBounds_toArray, List.set_cons_succ, List.set_cons_zero]
          refine takeH (i := 2) (d := (some 24)) (v := ?_) rfl rfl (by kernel_rfl) (by kernel_rfl) (by kernel_rfl) (fun _ _ _ h => h) (by kernel_rfl) ?_ (by assumption) ?_
          rotate_left
          · (intro w hSw; (try dsimp only at hSw); go_simp; try with_reducible rfl)
          try simp only [Act.put, List.setIfInBounds_toArray, List.set_cons_succ, List.set_cons_zero]
          refine takeH (i := 3) (d := (some 25)) (v := ?_) rfl rfl (by kernel_rfl) (by kernel_rfl) (by kernel_rfl) (fun _ _ _ h => h) (by kernel_rfl) ?_ (by assumption) ?_
          rotate_left
          · (intro w hSw; (try dsimp only at hSw); go_simp; try with_reducible rfl)
          try simp only [Act.put, List.setIfInBounds_toArray, List.set_cons_succ, List.set_cons_zero]
          refine takeH (i := 4) (d := (some 26)) (v := ?_) rfl rfl (by kernel_rfl) (by kernel_rfl) (by kernel_rfl) (fun _ _ _ h => h) (by kernel_rfl) ?_ (by assumption) ?_
          rotate_left
          · (intro w hSw; (try dsimp only at hSw); go_simp; try with_reducible rfl)
          try simp only [Act.put, List.setIfInBounds_toArray, List.set_cons_succ, List.set_cons_zero]
          refine takeH (i := 5) (d := (some 27)) (v := ?_) rfl rfl (by kernel_rfl) (by kernel_rfl) (by kernel_rfl) (fun _ _ _ h => h) (by kernel_rfl) ?_ (by assumption) ?_
          rotate_left
          · (intro w hSw; (try dsimp only at hSw); go_simp; try with_reducible rfl)
          try simp only [Act.put, List.setIfInBounds_toArray, List.set_cons_succ, List.set_cons_zero]
          refine takeH (i := 6) (d := (some 28)) (v := ?_) rfl rfl (by kernel_rfl) (by kernel_rfl) (by kernel_rfl) (fun _ _ _ h => h) (by kernel_rfl) ?_ (by assumption) ?_
          rotate_left
          · (intro w hSw; (try dsimp only at hSw); go_simp; try with_reducible rfl)
          try simp only [Act.put, List.setIfInBounds_toArray, List.set_cons_succ, List.set_cons_zero]
          refine takeH (i := 7) (d := (some 29)) (v := ?_) rfl rfl (by kernel_rfl) (by kernel_rfl) (by kernel_rfl) (fun _ _ _ h => h) (by kernel_rfl) ?_ (by assumption) ?_
          rotate_left
          · (intro w hSw; (try dsimp only at hSw); go_simp; try with_reducible rfl)
          try simp only [Act.put, List.setIfInBounds_toArray, List.set_cons_succ, List.set_cons_zero]
          refine takeH (i := 8) (d := (some 30)) (v := ?_) rfl rfl (by kernel_rfl) (by kernel_rfl) (by kernel_rfl) (fun _ _ _ h => h) (by kernel_rfl) ?_ (by assumption) ?_
          rotate_left
          · (intro w hSw; (try dsimp only at hSw); go_simp; try with_reducible rfl)
          try simp only [Act.put, List.setIfInBounds_toArray, List.set_cons_succ, List.set_cons_zero]
          refine takeH (i := 9) (d := (some 31)) (v := ?_) rfl rfl (by kernel_rfl) (by kernel_rfl) (by kernel_rfl) (fun _ _ _ h => h) (by kernel_rfl) ?_ (by assumption) ?_
          rotate_left
          · (intro w hSw; (try dsimp only at hSw); go_simp; try with_reducible rfl)
          try simp only [Act.put, List.setIfInBounds_toArray, List.set_cons_succ, List.set_cons_zero]
          refine takeH (i := 10) (d := (some 32)) (v := ?_) rfl rfl (by kernel_rfl) (by kernel_rfl) (by kernel_rfl) (fun _ _ _ h => h) (by kernel_rfl) ?_ (by assumption) ?_
          rotate_left
          · (intro w hSw; (try dsimp only at hSw); go_simp; try with_reducible rfl)
          try simp only [Act.put, List.setIfInBounds_toArray, List.set_cons_succ, List.set_cons_zero]
          refine takeH (i := 11) (d := (some 33)) (v := ?_) rfl rfl (by kernel_rfl) (by kernel_rfl) (by kernel_rfl) (fun _ _ _ h => h) (by kernel_rfl) ?_ (by assumption) ?_
          rotate_left
          · (intro w hSw; (try dsimp only at hSw); go_simp; try with_reducible rfl)
          try simp only [Act.put, List.setIfInBounds_toArray, List.set_cons_succ, List.set_cons_zero]
          refine takeH (i := 12) (d := (some 34)) (v := ?_) rfl rfl (by kernel_rfl) (by kernel_rfl) (by kernel_rfl) (fun _ _ _ h => h) (by kernel_rfl) ?_ (by assumption) ?_
          rotate_left
          · (intro w hSw; (try dsimp only at hSw); go_simp; try with_reducible rfl)
          try simp only [Act.put, List.setIfInBounds_toArray, List.set_cons_succ, List.set_cons_zero]
          refine takeH (i := 13) (d := (some 35)) (v := ?_) rfl rfl (by kernel_rfl) (by kernel_rfl) (by kernel_rfl) (fun _ _ _ h => h) (by kernel_rfl) ?_ (by assumption) ?_
          rotate_left
          · (intro w hSw; (try dsimp only at hSw); go_simp; try with_reducible rfl)
          try simp only [Act.put, List.setIfInBounds_toArray, List.set_cons_succ, List.set_cons_zero]
          refine takeH (i := 14) (d := (some 4)) (v := ?_) rfl rfl (by kernel_rfl) (by kernel_rfl) (by kernel_rfl) (fun _ _ _ h => h) (by kernel_rfl) ?_ (by assumption) ?_
          rotate_left
          · (intro w hSw; (try dsimp only at hSw); go_simp; try with_reducible rfl)
          try simp only [Act.put, List.setIfInBounds_toArray, List.set_cons_succ, List.set_cons_zero]
          refine takeH (i := 15) (d := (some 5)) (v := ?_) rfl rfl (by kernel_rfl) (by kernel_rfl) (by kernel_rfl) (fun _ _ _ h => h) (by kernel_rfl) ?_ (by assumption) ?_
          rotate_left
          · (intro w hSw; (try dsimp only at hSw); go_simp; try with_reducible rfl)
          try simp only [Act.put, List.setIfInBounds_toArray, List.set_cons_succ, List.set_cons_zero]
          refine wpAnyH_done (by kernel_rfl) ?_ _
          clear hHeld hA hs hd
          go_wp2_with fail
          go_ret2
          exact ⟨by rw [HP.out, HT.out]; rfl, (Below.refl _ _).drew⟩
        | false =>
          have HT : Hid (prThere l s = false) := by show _ = _; unfold prThere; rw [HP.out, decide_eq_true hlt, decide_eq_false (pr_sNe hs)]; rfl
          refine wp_region_held_drew (S := (fun w' => w'.cell? ⟨b, off + k * 2, none⟩ = some (.string (prAt l k).1))) (by kernel_rfl) (by exact hc0) (fun hHeld => ?_)
          refine takeH (i := 0) (d := (some 22)) (v := ?_) rfl rfl (by kernel_rfl) (by kernel_rfl) (by kernel_rfl) (fun _ _ _ h => h) (by kernel_rfl) ?_ (by assumption) ?_
          rotate_left
          · (intro w hSw; (try dsimp only at hSw); go_simp; try with_reducible rfl)
          try simp only [Act.put, List.setIfInBounds_toArray, List.set_cons_succ, List.set_cons_zero]
          refine takeH (i := 1) (d := (some 23)) (v := ?_) rfl rfl (by kernel_rfl) (by kernel_rfl) (by kernel_rfl) (fun _ _ _ h => h) (by kernel_rfl) ?_ (by assumption) ?_
          rotate_left
          · (intro w hSw; (try dsimp only at hSw); go_simp; try with_reducible rfl)
          try simp only [Act.put, List.setIfInBounds_toArray, List.set_cons_succ, List.set_cons_zero]
          refine takeH (i := 2) (d := (some 24)) (v := ?_) rfl rfl (by kernel_rfl) (by kernel_rfl) (by kernel_rfl) (fun _ _ _ h => h) (by kernel_rfl) ?_ (by assumption) ?_
          rotate_left
          · (intro w hSw; (try dsimp only at hSw); go_simp; try with_reducible rfl)
          try simp only [Act.put, List.setIfInBounds_toArray, List.set_cons_succ, List.set_cons_zero]
          refine takeH (i := 3) (d := (some 25)) (v := ?_) rfl rfl (by kernel_rfl) (by kernel_rfl) (by kernel_rfl) (fun _ _ _ h => h) (by kernel_rfl) ?_ (by assumption) ?_
          rotate_left
          · (intro w hSw; (try dsimp only at hSw); go_simp; try with_reducible rfl)
          try simp only [Act.put, List.setIfInBounds_toArray, List.set_cons_succ, List.set_cons_zero]
          refine takeH (i := 4) (d := (some 26)) (v := ?_) rfl rfl (by kernel_rfl) (by kernel_rfl) (by kernel_rfl) (fun _ _ _ h => h) (by kernel_rfl) ?_ (by assumption) ?_
          rotate_left
          · (intro w hSw; (try dsimp only at hSw); go_simp; try with_reducible rfl)
          try simp only [Act.put, List.setIfInBounds_toArray, List.set_cons_succ, List.set_cons_zero]
          refine takeH (i := 5) (d := (some 27)) (v := ?_) rfl rfl (by kernel_rfl) (by kernel_rfl) (by kernel_rfl) (fun _ _ _ h => h) (by kernel_rfl) ?_ (by assumption) ?_
          rotate_left
          · (intro w hSw; (try dsimp only at hSw); go_simp; try with_reducible rfl)
          try simp only [Act.put, List.setIfInBounds_toArray, List.set_cons_succ, List.set_cons_zero]
          refine takeH (i := 6) (d := (some 28)) (v := ?_) rfl rfl (by kernel_rfl) (by kernel_rfl) (by kernel_rfl) (fun _ _ _ h => h) (by kernel_rfl) ?_ (by assumption) ?_
          rotate_left
          · (intro w hSw; (try dsimp only at hSw); go_simp; try with_reducible rfl)
          try simp only [Act.put, List.setIfInBounds_toArray, List.set_cons_succ, List.set_cons_zero]
          refine takeH (i := 7) (d := (some 29)) (v := ?_) rfl rfl (by kernel_rfl) (by kernel_rfl) (by kernel_rfl) (fun _ _ _ h => h) (by kernel_rfl) ?_ (by assumption) ?_
          rotate_left
          · (intro w hSw; (try dsimp only at hSw); go_simp; try with_reducible rfl)
          try simp only [Act.put, List.setIfInBounds_toArray, List.set_cons_succ, List.set_cons_zero]
          refine takeH (i := 8) (d := (some 30)) (v := ?_) rfl rfl (by kernel_rfl) (by kernel_rfl) (by kernel_rfl) (fun _ _ _ h => h) (by kernel_rfl) ?_ (by assumption) ?_
          rotate_left
          · (intro w hSw; (try dsimp only at hSw); go_simp; try with_reducible rfl)
          try simp only [Act.put, List.setIfInBounds_toArray, List.set_cons_succ, List.set_cons_zero]
          refine takeH (i := 9) (d := (some 31)) (v := ?_) rfl rfl (by kernel_rfl) (by kernel_rfl) (by kernel_rfl) (fun _ _ _ h => h) (by kernel_rfl) ?_ (by assumption) ?_
          rotate_left
          · (intro w hSw; (try dsimp only at hSw); go_simp; try with_reducible rfl)
          try simp only [Act.put, List.setIfInBounds_toArray, List.set_cons_succ, List.set_cons_zero]
          refine takeH (i := 10) (d := (some 32)) (v := ?_) rfl rfl (by kernel_rfl) (by kernel_rfl) (by kernel_rfl) (fun _ _ _ h => h) (by kernel_rfl) ?_ (by assumption) ?_
          rotate_left
          · (intro w hSw; (try dsimp only at hSw); go_simp; try with_reducible rfl)
          try simp only [Act.put, List.setIfInBounds_toArray, List.set_cons_succ, List.set_cons_zero]
          refine takeH (i := 11) (d := (some 33)) (v := ?_) rfl rfl (by kernel_rfl) (by kernel_rfl) (by kernel_rfl) (fun _ _ _ h => h) (by kernel_rfl) ?_ (by assumption) ?_
          rotate_left
          · (intro w hSw; (try dsimp only at hSw); go_simp; try with_reducible rfl)
          try simp only [Act.put, List.setIfInBounds_toArray, List.set_cons_succ, List.set_cons_zero]
          refine takeH (i := 12) (d := (some 34)) (v := ?_) rfl rfl (by kernel_rfl) (by kernel_rfl) (by kernel_rfl) (fun _ _ _ h => h) (by kernel_rfl) ?_ (by assumption) ?_
          rotate_left
          · (intro w hSw; (try dsimp only at hSw); go_simp; try with_reducible rfl)
          try simp only [Act.put, List.setIfInBounds_toArray, List.set_cons_succ, List.set_cons_zero]
          refine takeH (i := 13) (d := (some 35)) (v := ?_) rfl rfl (by kernel_rfl) (by kernel_rfl) (by kernel_rfl) (fun _ _ _ h => h) (by kernel_rfl) ?_ (by assumption) ?_
          rotate_left
          · (intro w hSw; (try dsimp only at hSw); go_simp; try with_reducible rfl)
          try simp only [Act.put, List.setIfInBounds_toArray, List.set_cons_succ, List.set_cons_zero]
          refine takeH (i := 14) (d := (some 4)) (v := ?_) rfl rfl (by kernel_rfl) (by kernel_rfl) (by kernel_rfl) (fun _ _ _ h => h) (by kernel_rfl) ?_ (by assumption) ?_
          rotate_left
          · (intro w hSw; (try dsimp only at hSw); go_simp; try with_reducible rfl)
          try simp only [Act.put, List.setIfInBounds_toArray, List.set_cons_succ, List.set_cons_zero]
          refine takeH (i := 15) (d := (some 5)) (v := ?_) rfl rfl (by kernel_rfl) (by kernel_rfl) (by kernel_rfl) (fun _ _ _ h => h) (by kernel_rfl) ?_ (by assumption) ?_
          rotate_left
          · (intro w hSw; (try dsimp only at hSw); go_simp; try with_reducible rfl)
          try simp only [Act.put, List.setIfInBounds_toArray, List.set_cons_succ, List.set_cons_zero]
          refine wpAnyH_done (by kernel_rfl) ?_ _
          clear hHeld hA hs hd
          go_wp2_with fail
          go_ret2
          exact ⟨by rw [HP.out, HT.out]; rfl, (Below.refl _ _).drew⟩
    · obtain rfl : k = l.length := by omega
      have HP : Hid (prPos l s = l.length) := prPos_end hno
      have HT : Hid (prThere l s = false) := by show _ = _; unfold prThere; rw [HP.out, decide_eq_false (Nat.lt_irrefl _)]; rfl
      have hd : decide ((l.length : Int) < (l.length : Int)) = false := by simp
      go_wp2_with fail
      refine wp_region_held_drew (S := (fun w' => True)) (by kernel_rfl) (by trivial) (fun hHeld => ?_)
      refine takeH (i := 0) (d := (some 22)) (v := ?_) rfl rfl (by kernel_rfl) (by kernel_rfl) (by kernel_rfl) (fun _ _ _ h => h) (by kernel_rfl) ?_ (by assumption) ?_
      rotate_left
      · (intro w hSw; (try dsimp only at hSw); go_simp; try with_reducible rfl)
      try simp only [Act.put, List.setIfInBounds_toArray, List.set_cons_succ, List.set_cons_zero]
      refine takeH (i := 1) (d := (some 23)) (v := ?_) rfl rfl (by kernel_rfl) (by kernel_rfl) (by kernel_rfl) (fun _ _ _ h => h) (by kernel_rfl) ?_ (by assumption) ?_
      rotate_left
      · (intro w hSw; (try dsimp only at hSw); go_simp; try with_reducible rfl)
      try simp only [Act.put, List.setIfInBounds_toArray, List.set_cons_succ, List.set_cons_zero]
      refine takeH (i := 2) (d := (some 24)) (v := ?_) rfl rfl (by kernel_rfl) (by kernel_rfl) (by kernel_rfl) (fun _ _ _ h => h) (by kernel_rfl) ?_ (by assumption) ?_
      rotate_left
      · (intro w hSw; (try dsimp only at hSw); go_simp; try with_reducible rfl)
      try simp only [Act.put, List.setIfInBounds_toArray, List.set_cons_succ, List.set_cons_zero]
      refine takeH (i := 3) (d := (some 25)) (v := ?_) rfl rfl (by kernel_rfl) (by kernel_rfl) (by kernel_rfl) (fun _ _ _ h => h) (by kernel_rfl) ?_ (by assumption) ?_
      rotate_left
      · (intro w hSw; (try dsimp only at hSw); go_simp; try with_reducible rfl)
      try simp only [Act.put, List.setIfInBounds_toArray, List.set_cons_succ, List.set_cons_zero]
      refine takeH (i := 4) (d := (some 26)) (v := ?_) rfl rfl (by kernel_rfl) (by kernel_rfl) (by kernel_rfl) (fun _ _ _ h => h) (by kernel_rfl) ?_ (by assumption) ?_
      rotate_left
      · (intro w hSw; (try dsimp only at hSw); go_simp; try with_reducible rfl)
      try simp only [Act.put, List.setIfInBounds_toArray, List.set_cons_succ, List.set_cons_zero]
      refine takeH (i := 5) (d := (some 27)) (v := ?_) rfl rfl (by kernel_rfl) (by kernel_rfl) (by kernel_rfl) (fun _ _ _ h => h) (by kernel_rfl) ?_ (by assumption) ?_
      rotate_left
      · (intro w hSw; (try dsimp only at hSw); go_simp; try with_reducible rfl)
      try simp only [Act.put, List.setIfInBounds_toArray, List.set_cons_succ, List.set_cons_zero]
      refine skipH (i := 6) (d := (some 28)) rfl rfl (by kernel_rfl) (by kernel_rfl) (by kernel_rfl) (fun _ _ _ h => h) (by kernel_rfl) (by assumption) ?_
      try simp only [Act.put, List.setIfInBounds_toArray, List.set_cons_succ, List.set_cons_zero]
      refine skipH (i := 7) (d := (some 29)) rfl rfl (by kernel_rfl) (by kernel_rfl) (by kernel_rfl) (fun _ _ _ h => h) (by kernel_rfl) (by assumption) ?_
      try simp only [Act.put, List.setIfInBounds_toArray, List.set_cons_succ, List.set_cons_zero]
      refine skipH (i := 8) (d := (some 30)) rfl rfl (by kernel_rfl) (by kernel_rfl) (by kernel_rfl) (fun _ _ _ h => h) (by kernel_rfl) (by assumption) ?_
      try simp only [Act.put, List.setIfInBounds_toArray, List.set_cons_succ, List.set_cons_zero]
      refine skipH (i := 9) (d := (some 31)) rfl rfl (by kernel_rfl) (by kernel_rfl) (by kernel_rfl) (fun _ _ _ h => h) (by kernel_rfl) (by assumption) ?_
      try simp only [Act.put, List.setIfInBounds_toArray, List.set_cons_succ, List.set_cons_zero]
      refine skipH (i := 10) (d := (some 32)) rfl rfl (by kernel_rfl) (by kernel_rfl) (by kernel_rfl) (fun _ _ _ h => h) (by kernel_rfl) (by assumption) ?_
      try simp only [Act.put, List.setIfInBounds_toArray, List.set_cons_succ, List.set_cons_zero]
      refine skipH (i := 11) (d := (some 33)) rfl rfl (by kernel_rfl) (by kernel_rfl) (by kernel_rfl) (fun _ _ _ h => h) (by kernel_rfl) (by assumption) ?_
      try simp only [Act.put, List.setIfInBounds_toArray, List.set_cons_succ, List.set_cons_zero]
      refine skipH (i := 12) (d := (some 34)) rfl rfl (by kernel_rfl) (by kernel_rfl) (by kernel_rfl) (fun _ _ _ h => h) (by kernel_rfl) (by assumption) ?_
      try simp only [Act.put, List.setIfInBounds_toArray, List.set_cons_succ, List.set_cons_zero]
      refine takeH (i := 13) (d := (some 35)) (v := ?_) rfl rfl (by kernel_rfl) (by kernel_rfl) (by kernel_rfl) (fun _ _ _ h => h) (by kernel_rfl) ?_ (by assumption) ?_
      rotate_left
      · (intro w hSw; (try dsimp only at hSw); go_simp; try with_reducible rfl)
      try simp only [Act.put, List.setIfInBounds_toArray, List.set_cons_succ, List.set_cons_zero]
      refine takeH (i := 14) (d := (some 4)) (v := ?_) rfl rfl (by kernel_rfl) (by kernel_rfl) (by kernel_rfl) (fun _ _ _ h => h) (by kernel_rfl) ?_ (by assumption) ?_
      rotate_left
      · (intro w hSw; (try dsimp only at hSw); go_simp; try with_reducible rfl)
      try simp only [Act.put, List.setIfInBounds_toArray, List.set_cons_succ, List.set_cons_zero]
      refine takeH (i := 15) (d := (some 5)) (v := ?_) rfl rfl (by kernel_rfl) (by kernel_rfl) (by kernel_rfl) (fun _ _ _ h => h) (by kernel_rfl) ?_ (by assumption) ?_
      rotate_left
      · (intro w hSw; (try dsimp only at hSw); go_simp; try with_reducible rfl)
      try simp only [Act.put, List.setIfInBounds_toArray, List.set_cons_succ, List.set_cons_zero]
      refine wpAnyH_done (by kernel_rfl) ?_ _
      clear hHeld hd
      go_wp2_with fail
      go_ret2
      exact ⟨by rw [HP.out, HT.out]; rfl, (Below.refl _ _).drew⟩
end Go.Proofs.Ytdaahcenplepjaa
/- FieldsGet: the program's and the model's. -/
namespace Go.Proofs.Ytdaahcenplepjaa
open Go.RowKit

def prGetB (l : List (ByteArray × ByteArray)) (s : ByteArray) : Bool := decide (0 ≤ prFindI l s)
def prGetS (l : List (ByteArray × ByteArray)) (s : ByteArray) : ByteArray := if prGetB l s = true then (prAt l (prFindI l s).toNat).2 else ByteArray.empty

end Go.Proofs.Ytdaahcenplepjaa
/- FieldsDrop: the model's. -/
namespace Go.Proofs.Ytdaahcenplepjaa
open Go.RowKit

theorem prWo_pos {l : List (ByteArray × ByteArray)} {s : ByteArray} (hok : prOkB l = true) (ht : prThere l s = true) : prWo l s = l.take (prPos l s) ++ l.drop (prPos l s + 1) := by
  have h1 := (prPlc_pos (s := s) hok).1 ht
  have h2 := prPlc_idx (l := l) (s := s) (by omega)
  unfold prWo
  rw [show prIdx l s = prPos l s by omega, List.eraseIdx_eq_take_drop_succ]
theorem prWo_no {l : List (ByteArray × ByteArray)} {s : ByteArray} (hok : prOkB l = true) (ht : prThere l s = false) : prWo l s = l := prWo_miss (by have := (prPlc_pos (s := s) hok).2 ht; omega)

end Go.Proofs.Ytdaahcenplepjaa
/- The place where a row of Pair comes; rows with one more. Plain facts. -/
namespace Go.Proofs.Ytdaahcenplepjaa
open Go.RowKit

def prIPos (r : List (ByteArray × ByteArray)) (x : (ByteArray × ByteArray)) : Nat := r.findIdx (fun y => !prAheadB y x)
def prILow (r : List (ByteArray × ByteArray)) (x : (ByteArray × ByteArray)) (k : Nat) : Prop := ∀ j, j < k → prAheadB (prAt r j) x = true
theorem prIPos_le (r : List (ByteArray × ByteArray)) (x : (ByteArray × ByteArray)) : prIPos r x ≤ r.length := List.findIdx_le_length
theorem prIPos_at {r : List (ByteArray × ByteArray)} {x : (ByteArray × ByteArray)} {k : Nat} (hk : k < r.length) (hl : prILow r x k) (h : prAheadB (prAt r k) x = false) : prIPos r x = k := by
  unfold prIPos
  rw [List.findIdx_eq hk]
  refine ⟨by rw [← prAt_get hk, h]; rfl, fun j hj => ?_⟩
  have := hl j hj
  rw [prAt_get (by omega)] at this
  rw [this]; rfl
theorem prIPos_end {r : List (ByteArray × ByteArray)} {x : (ByteArray × ByteArray)} (hl : prILow r x r.length) : prIPos r x = r.length := by
  unfold prIPos
  rw [List.findIdx_eq_length]
  intro y hy
  obtain ⟨j, hj, rfl⟩ := List.getElem_of_mem hy
  have := hl j hj
  rw [prAt_get hj] at this
  rw [this]; rfl
theorem prILow_step {r : List (ByteArray × ByteArray)} {x : (ByteArray × ByteArray)} {k : Nat} (hn : prILow r x k) (h : prAheadB (prAt r k) x = true) : prILow r x (k + 1) := by
  intro j hj
  by_cases e : j = k
  · rw [e]; exact h
  · exact hn j (by omega)
def prIns (r : List (ByteArray × ByteArray)) (x : (ByteArray × ByteArray)) : List (ByteArray × ByteArray) := r.take (prIPos r x) ++ x :: r.drop (prIPos r x)
theorem prIns_len (r : List (ByteArray × ByteArray)) (x : (ByteArray × ByteArray)) : (prIns r x).length = r.length + 1 := by
  unfold prIns
  have := prIPos_le r x
  simp; omega
end Go.Proofs.Ytdaahcenplepjaa
/- FieldsPut: the model's. -/
namespace Go.Proofs.Ytdaahcenplepjaa
open Go.RowKit

def prPutL (l : List (ByteArray × ByteArray)) (y : ByteArray × ByteArray) : List (ByteArray × ByteArray) := if prThere l y.1 = true then l.set (prPos l y.1) y else l.take (prPos l y.1) ++ y :: l.drop (prPos l y.1)
def prPutB (l : List (ByteArray × ByteArray)) (y : ByteArray × ByteArray) : Bool := prOkB l && prOkB (prPutL l y)
def prPutF (l : List (ByteArray × ByteArray)) (y : ByteArray × ByteArray) : Bool := prPutB l y && !prThere l y.1
def prPutR (l : List (ByteArray × ByteArray)) (y : ByteArray × ByteArray) : List (ByteArray × ByteArray) := if prOkB l = true then (if prOkB (prPutL l y) = true then prPutL l y else l) else []
theorem pr_one_at {w : World} {B : Nat} {y : ByteArray × ByteArray} {t : TypeId} {fr : Nat × Nat} (h : w.heap[B]? = some (.cells #[.string y.1, .string y.2] t fr)) : ReadsR prC 2 w (.slice (some ⟨B, 0, none⟩) 1 1) [y] := by
  refine .inr ⟨by simp, B, 0, 1, rfl, (Array.getElem?_eq_some_iff.1 h).1, by simp, by unfold maxLen; omega, fun k x hk => ?_⟩
  match k, hk with
  | 0, hk =>
    cases hk
    intro j u hu
    rw [Nat.zero_mul, Nat.zero_add, cell_of_row _ _ _ _ _ _ h]
    match j, hu with
    | 0, hu => cases hu; rfl
    | 1, hu => cases hu; rfl
    | j + 2, hu => simp [prC] at hu
  | k + 1, hk => simp at hk
set_option maxHeartbeats 16000000 in
set_option maxRecDepth 20000 in
theorem specFieldsPut_any (v : Value) (l : List (ByteArray × ByteArray)) (y : ByteArray × ByteArray) (w : World) (hr : PrReads w v l) (hlen : l.length ≤ 1048576) :
    Calls Try.prog 33 #[v, .agg #[.string y.1, .string y.2]] w fun e w' => ∃ x, e = .returned (.tuple #[x, .bool (prPutF l y), .bool (prPutB l y)]) ∧ PrOwns w' w.heap.size x (prPutR l y) ∧ Below w.heap.size w w' := by
  obtain ⟨i0, hi0, hz0, hz1, hz2⟩ := info_parts prInfo
  obtain ⟨ao, cap, rfl⟩ := readsR_shape hr
  obtain ⟨W0, hW0⟩ : ∃ W0, w.alloc (.cells #[.string y.1, .string y.2] 65) = W0 := ⟨_, rfl⟩
  have hB0 : Below w.heap.size w W0 := by rw [← hW0]; exact (Below.refl _ w).alloc (Nat.le_refl _) _
  have hz0' : w.heap.size + 1 ≤ W0.heap.size := by rw [← hW0]; simp
  have hp : W0.cell? ⟨w.heap.size, 0, none⟩ = some (.string y.1) ∧ W0.cell? ⟨w.heap.size, 0 + 1, none⟩ = some (.string y.2) := by
    rw [← hW0]; exact ⟨by rw [cell_of_row _ _ _ _ _ _ (heap_alloc_new w _)]; rfl, by rw [cell_of_row _ _ _ _ _ _ (heap_alloc_new w _)]; rfl⟩
  go_enter Try.func33, Try.ntmps33
  go_wp2_with fail
  clear hW0
  refine (specFieldsOk_any _ l _ (readsR_kept hr hB0) hlen).mono ?_
  rintro e w1 ⟨rfl, hb1⟩
  have hsz1 := hb1.size
  have hB1 := hB0.trans (hb1.mono hB0.size)
  have hp1 := pr_cell_kept hp hb1 (by omega)
  clear hp hb1 hB0
  cases hok : prOkB l with
  | false =>
    have HR : Hid (prPutR l y = []) := by show _ = _; unfold prPutR; rw [hok]; rfl
    have HB : Hid (prPutB l y = false) := by show _ = _; unfold prPutB; rw [hok]; rfl
    have HF : Hid (prPutF l y = false) := by show _ = _; unfold prPutF; rw [HB.out]; rfl
    have ho1 : PrOwns (w1.alloc (.cells #[] 65)) w.heap.size (.slice (some ⟨w1.heap.size, 0, none⟩) 0 0) [] := World.ownsRow_lit w1 #[] 0 (by omega) (by simp) rfl
    have hB2 : Below w.heap.size w (w1.alloc (.cells #[] 65)) := hB1.alloc (by omega) _
    clear hok
    go_wp2_with fail
    go_ret3
    exact ⟨_, by rw [HF.out, HB.out]; rfl, by rw [HR.out]; exact ho1, hB2⟩
  | true =>
    have hn16 : l.length ≤ 16 := by unfold prOkB at hok; rw [Bool.and_eq_true] at hok; simpa using hok.1
    have HOK : Hid (prOkB l = true) := hok
    have hc0 := hp1.1
    clear hok
    go_wp2_with fail
    refine (l3At_any _ l y.1 _ (readsR_kept hr hB1) hlen).mono ?_
    rintro e w2 ⟨rfl, hb2⟩
    have hsz2 := hb2.size
    have hB2 := hB1.trans (hb2.mono (by omega))
    have hp2 := pr_cell_kept hp1 hb2 (by omega)
    have hr2 := readsR_kept hr hB2
    have hB2z := hB2.size
    have ho0 : (w2.alloc (.cells #[] 65)).ownsRow w.heap.size 65 2 (.slice (some ⟨w2.heap.size, 0, none⟩) 0 0) 0 [] := World.ownsRow_lit w2 #[] 0 (by omega) (by simp) rfl
    have hb0 : Below w2.heap.size w2 (w2.alloc (.cells #[] 65)) := (Below.refl w2.heap.size w2).alloc (Nat.le_refl _) (.cells #[] 65)
    have hr3 := readsR_kept hr2 hb0
    clear hc0 hp1 hb2 hB1
    go_wp2_with (at_builtin; refine append_R (c := prC) rfl (.tmp 21) (.tmp 22) 25 rfl w.heap.size 65 i0 _ 2 32 Try.underlying25 hi0 hz0 hz1 hz2 rfl (by decide) _ _ _ rfl ho0 _ rfl l hr3 prC_len prC_one (by unfold maxLen; omega) (by omega) (by simp; omega) ?_)
    intro x4 w4 hown4 hgrow4
    have ho4 : PrOwns w4 w.heap.size x4 l := by unfold PrOwns OwnsR; simpa using hown4
    have hb4 : Below w2.heap.size w2 w4 := hb0.grown hgrow4 (by simp) (fun j hj => by cases hj; exact Nat.le_refl _)
    have hB4 : Below w.heap.size w w4 := hB2.trans (hb4.mono hB2z)
    have hz4 := hb4.size
    have hp4 := pr_cell_kept hp2 hb4 (by omega)
    clear hown4 hgrow4 ho0 hb0 hr3 hp2 hB2 hr2 hb4
    obtain ⟨hq0, hq1⟩ := hp4
    cases ht : prThere l y.1 with
    | true =>
      have hlt : prPos l y.1 < l.length := by unfold prThere at ht; simp only [Bool.and_eq_true, decide_eq_true_eq] at ht; exact ht.1
      have HPL : Hid (prPutL l y = l.set (prPos l y.1) y) := by show _ = _; unfold prPutL; rw [ht]; rfl
      have HTH : Hid ((!prThere l y.1) = false) := by show _ = _; rw [ht]; rfl
      clear ht
      obtain ⟨g, c4, hxv⟩ : ∃ g c4, x4 = .slice (some ⟨g, 0, none⟩) l.length c4 := by
        rcases ownsR_form ho4 with ⟨h0, _⟩ | ⟨_, g, c, hv⟩
        · rw [h0] at hlt; simp at hlt
        · exact ⟨g, c, hv⟩
      subst hxv
      generalize prPos l y.1 = k at *
      have hkl : (k : Int) < (l.length : Int) := by omega
      have s0 : w4.cell? ⟨g, k * 2, none⟩ = _ := cellR prC_len ho4 (prAt_some hlt) 0 _ rfl
      have s1 : w4.cell? ⟨g, k * 2 + 1, none⟩ = _ := cellR prC_len ho4 (prAt_some hlt) 1 _ rfl
      have f0 := World.ownsRow.frozenAt ho4 (k * 2)
      have f1 := World.ownsRow.frozenAt ho4 (k * 2 + 1)
      have hst := ownsR_store2 prC_len ho4 k _ y (.string y.1) (.string y.2) (prAt_some hlt) rfl
      obtain ⟨w7, hw7⟩ : ∃ w7, (w4.setCell ⟨g, k * 2, none⟩ (.string y.1)).setCell ⟨g, k * 2 + 1, none⟩ (.string y.2) = w7 := ⟨_, rfl⟩
      rw [hw7] at hst
      have hB7 : Below w.heap.size w w7 := hB4.grown hst.2 hB4.size (fun j hj => by cases hj; exact (World.ownsRow.lt ho4 g rfl).1)
      have hoF : PrOwns w7 w.heap.size (.slice (some ⟨g, 0, none⟩) l.length c4) (l.set k y) := hst.1
      have hb7z := hB7.size
      have hinl : (l.set k y).length ≤ 17 := by rw [List.length_set]; omega
      clear hst ho4 hB4
      generalize l.set k y = O at *
      go_wp2_with fail
      refine (specFieldsOk_any _ O _ (ownsR_reads prC_len hoF) (by omega)).mono ?_
      rintro e w8 ⟨rfl, hb8⟩
      have hB8 := hB7.trans (hb8.mono hb7z)
      have ho8 := ownsR_kept hoF hb8
      have hz8 := hB8.size
      clear hb8 hoF hB7
      cases hok2 : prOkB O with
      | true =>
        have HR : Hid (prPutR l y = O) := by show _ = _; unfold prPutR; rw [HOK.out, HPL.out, hok2]; rfl
        have HB : Hid (prPutB l y = true) := by show _ = _; unfold prPutB; rw [HOK.out, HPL.out, hok2]; rfl
        have HF : Hid (prPutF l y = !prThere l y.1) := by show _ = _; unfold prPutF; rw [HB.out]; rfl
        clear hok2
        go_wp2_with fail
        go_ret3
        exact ⟨_, by rw [HF.out, HTH.out, HB.out]; rfl, by rw [HR.out]; exact ho8, hB8⟩
      | false =>
        have HR : Hid (prPutR l y = l) := by show _ = _; unfold prPutR; rw [HOK.out, HPL.out, hok2]; rfl
        have HB : Hid (prPutB l y = false) := by show _ = _; unfold prPutB; rw [HOK.out, HPL.out, hok2]; rfl
        have HF : Hid (prPutF l y = false) := by show _ = _; unfold prPutF; rw [HB.out]; rfl
        have ho9 : (w8.alloc (.cells #[] 65)).ownsRow w.heap.size 65 2 (.slice (some ⟨w8.heap.size, 0, none⟩) 0 0) 0 [] := World.ownsRow_lit w8 #[] 0 hz8 (by simp) rfl
        have hB9 : Below w.heap.size w (w8.alloc (.cells #[] 65)) := hB8.alloc hz8 _
        have hr9 := readsR_kept hr hB9
        clear hok2 ho8
        go_wp2_with (at_builtin; refine append_R (c := prC) rfl (.tmp 44) (.tmp 45) 25 rfl w.heap.size 65 i0 _ 2 32 Try.underlying25 hi0 hz0 hz1 hz2 rfl (by decide) _ _ _ rfl ho9 _ rfl l hr9 prC_len prC_one (by unfold maxLen; omega) (by omega) (by simp; omega) ?_)
        intro xa wa howna hgrowa
        have hoa : PrOwns wa w.heap.size xa l := by unfold PrOwns OwnsR; first | simpa using howna | simpa [h00] using howna
        have hBa : Below w.heap.size w wa := hB9.grown hgrowa (by simp; omega) (fun j hj => (ho9.lt j hj).1)
        clear howna hgrowa
        go_wp2_with fail
        go_ret3
        exact ⟨_, by rw [HF.out, HB.out]; rfl, by rw [HR.out]; exact hoa, hBa⟩
    | false =>
      have HPL : Hid (prPutL l y = l.take (prPos l y.1) ++ y :: l.drop (prPos l y.1)) := by show _ = _; unfold prPutL; rw [ht]; rfl
      have HTH : Hid ((!prThere l y.1) = true) := by show _ = _; rw [ht]; rfl
      have hkl := prPos_le l y.1
      clear ht ho4
      have hr4 := readsR_kept hr hB4
      have hwq : w.heap.size < w4.heap.size := by omega
      have hwq2 : w.heap.size ≤ w4.heap.size := by omega
      have hBq := hB4
      generalize prPos l y.1 = k at *
      obtain ⟨T, hT⟩ : ∃ T, l.take k = T := ⟨_, rfl⟩
      obtain ⟨D, hD⟩ : ∃ D, l.drop k = D := ⟨_, rfl⟩
      rw [hT, hD] at HPL
      have hTl : T.length = k := by rw [← hT]; simp; omega
      have hDl : D.length = l.length - k := by rw [← hD]; simp
      rcases hr4 with ⟨h0, ao', cap', hv, hcap⟩ | ⟨h0, b, off, cap', hv, hb, hnc, hcm, hc⟩
      · have h00 : l.length = 0 := by rw [h0]; rfl
        simp only [Value.slice.injEq] at hv
        obtain ⟨rfl, _, rfl⟩ := hv
        obtain rfl : k = 0 := by omega
        have hT0 : T = [] := List.length_eq_zero_iff.1 hTl
        have hD0 : D = [] := List.length_eq_zero_iff.1 (by omega)
        have hDl0 : D.length = 0 := by omega
        clear h0 hT hD hDl
        rw [h00] at hr
        cases ao with
        | none =>
          obtain rfl := hcap rfl
          have HA : Hid (ReadsR prC 2 w4 (.slice none 0 0) T) := .inl ⟨hT0, _, _, rfl, fun _ => rfl⟩
          have HBc : Hid (ReadsR prC 2 w4 (.slice none 0 0) D) := .inl ⟨hD0, _, _, rfl, fun _ => rfl⟩
          clear hT0 hD0 hcap
          go_wp2_with fail
          have HS2 : Hid (∀ w', Below (w4).heap.size (w4) w' → (w'.cell? ⟨w.heap.size, 0, none⟩ = some (.string y.1) ∧ w'.cell? ⟨w.heap.size, 1, none⟩ = some (.string y.2))) := fun w' h => ⟨(h.cell (p := ⟨w.heap.size, 0, none⟩) hwq).trans hq0, (h.cell (p := ⟨w.heap.size, 1, none⟩) hwq).trans hq1⟩
          have hlw : ∀ (A : Array Value), A.size = 0 → Below (w4).heap.size (w4) ((w4).alloc (.cells A 65)) := fun A _ => (Below.refl _ _).alloc (Nat.le_refl _) _
          clear hlw
          have hlitB : (((w4).alloc (.cells #[.string y.1, .string y.2] 65)).alloc (.cells #[] 65)).ownsRow (w4).heap.size 65 2 (.slice (some ⟨(w4).heap.size + 1, 0, none⟩) 0 0) 0 [] := by
            have := World.ownsRow_lit (base := (w4).heap.size) (e := 65) (size := 2) ((w4).alloc (.cells #[.string y.1, .string y.2] 65)) #[] 0 (by simp) (by simp) rfl
            rw [World.size_alloc] at this; exact this
          refine wp_region_held_drew (S := (fun w' => w'.cell? ⟨w.heap.size, 0, none⟩ = some (.string y.1) ∧ w'.cell? ⟨w.heap.size, 1, none⟩ = some (.string y.2))) (by kernel_rfl) (by exact HS2.out _ (Below.refl _ _).drew) (fun hHeld => ?_)
          refine takeH (i := 1) (d := (some 30)) (v := ?_) rfl rfl (by kernel_rfl) (by kernel_rfl) (by kernel_rfl) (fun _ _ _ h => h) (by kernel_rfl) ?_ (by assumption) ?_
          rotate_left
          · (intro w hSw; (try dsimp only at hSw); go_simp; try with_reducible rfl)
          try simp only [Act.put, List.setIfInBounds_toArray, List.set_cons_succ, List.set_cons_zero]
          refine takeH (i := 2) (d := (some 31)) (v := ?_) rfl rfl (by kernel_rfl) (by kernel_rfl) (by kernel_rfl) (fun _ _ _ h => h) (by kernel_rfl) ?_ (by assumption) ?_
          rotate_left
          · (intro w hSw; (try dsimp only at hSw); go_simp; try with_reducible rfl)
          try simp only [Act.put, List.setIfInBounds_toArray, List.set_cons_succ, List.set_cons_zero]
          refine takeH (i := 3) (d := (some 32)) (v := ?_) rfl rfl (by kernel_rfl) (by kernel_rfl) (by kernel_rfl) (fun _ _ _ h => h) (by kernel_rfl) ?_ (by assumption) ?_
          rotate_left
          · (intro w hSw; (try dsimp only at hSw); go_simp; try with_reducible rfl)
          try simp only [Act.put, List.setIfInBounds_toArray, List.set_cons_succ, List.set_cons_zero]
          refine takeH (i := 5) (d := (some 34)) (v := ?_) rfl rfl (by kernel_rfl) (by kernel_rfl) (by kernel_rfl) (fun _ _ _ h => h) (by kernel_rfl) ?_ (by assumption) ?_
          rotate_left
          · (intro w hSw; (try dsimp only at hSw); go_simp; try with_reducible rfl)
          try simp only [Act.put, List.setIfInBounds_toArray, List.set_cons_succ, List.set_cons_zero]
          refine takeH (i := 8) (d := (some 37)) (v := ?_) rfl rfl (by kernel_rfl) (by kernel_rfl) (by kernel_rfl) (fun _ _ _ h => h) (by kernel_rfl) ?_ (by assumption) ?_
          rotate_left
          · (intro w hSw; (try dsimp only at hSw); go_simp; try with_reducible rfl)
          try simp only [Act.put, List.setIfInBounds_toArray, List.set_cons_succ, List.set_cons_zero]
          refine takeH (i := 9) (d := (some 38)) (v := ?_) rfl rfl (by kernel_rfl) (by kernel_rfl) (by kernel_rfl) (fun _ _ _ h => h) (by kernel_rfl) ?_ (by assumption) ?_
          rotate_left
          · (intro w hSw; (try dsimp only at hSw); go_simp; try with_reducible rfl)
          try simp only [Act.put, List.setIfInBounds_toArray, List.set_cons_succ, List.set_cons_zero]
          refine takeH (i := 10) (d := (some 39)) (v := ?_) rfl rfl (by kernel_rfl) (by kernel_rfl) (by kernel_rfl) (fun _ _ _ h => h) (by kernel_rfl) ?_ (by assumption) ?_
          rotate_left
          · (intro w hSw; (try dsimp only at hSw); go_simp; try with_reducible rfl)
          try simp only [Act.put, List.setIfInBounds_toArray, List.set_cons_succ, List.set_cons_zero]
          refine wpAnyH_ready (rs := [0, 6]) (by kernel_rfl) (by simp) ?_
          refine AllReadyH.cons rfl (fun K hK => ?_) (AllReadyH.cons rfl (fun K hK => ?_) AllReadyH.nil)
          · go_simp
            refine hK.out _ _ ?_ (fun hHeld => ?_)
            · exact HS2.out _ ((Below.refl (w4).heap.size (w4)).alloc (Nat.le_refl _) (.cells #[] 65)).drew
            clear hK K
            (try simp only [Act.put]); (try simp only [List.setIfInBounds_toArray]); (try simp only [List.set_cons_succ]); (try simp only [List.set_cons_zero])
            refine wpAnyH_ready (rs := [4, 6]) (by kernel_rfl) (by simp) ?_
            refine AllReadyH.cons rfl (fun K hK => ?_) (AllReadyH.cons rfl (fun K hK => ?_) AllReadyH.nil)
            · refine step_append_R (c := prC) (d := some 33) rfl rfl (.tmp 29) (.tmp 32) 25 rfl (w4).heap.size 65 i0 _ 2 32 Try.underlying25 hi0 hz0 hz1 hz2 rfl (by decide) _ _ _ rfl (World.ownsRow.drew (World.ownsRow_lit (w4) #[] 0 (Nat.le_refl _) (by simp) rfl)) _ rfl T (readsR_kept HA.out ((Below.refl (w4).heap.size (w4)).alloc (Nat.le_refl _) (.cells #[] 65)).drew) prC_len prC_one (by unfold maxLen; simp; omega) (by simp; omega) (by simp) ?_
              intro x5 w5 ho5 hg5
              have hb5 : Below (w4).heap.size (w4) w5 := Below.grown ((Below.refl (w4).heap.size (w4)).alloc (Nat.le_refl _) (.cells #[] 65)).drew hg5 (by simp) (fun k hk => by cases hk; exact Nat.le_refl _)
              refine hK.out _ _ ?_ (fun hHeld => ?_)
              · exact HS2.out _ hb5
              clear hK K
              (try simp only [Act.put]); (try simp only [List.setIfInBounds_toArray]); (try simp only [List.set_cons_succ]); (try simp only [List.set_cons_zero])
              have hz5 := hb5.size
              refine wpAnyH_ready (rs := [6]) (by kernel_rfl) (by simp) ?_
              refine AllReadyH.cons rfl (fun K hK => ?_) AllReadyH.nil
              go_simp
              refine hK.out _ _ ?_ (fun hHeld => ?_)
              · exact HS2.out _ (hb5.alloc hz5 (.cells #[.string y.1, .string y.2] 65))
              clear hK K
              (try simp only [Act.put]); (try simp only [List.setIfInBounds_toArray]); (try simp only [List.set_cons_succ]); (try simp only [List.set_cons_zero])
              refine wpAnyH_ready (rs := [7]) (by kernel_rfl) (by simp) ?_
              refine AllReadyH.cons rfl (fun K hK => ?_) AllReadyH.nil
              refine step_append_R (c := prC) (d := some 36) rfl rfl (.tmp 33) (.tmp 35) 25 rfl (w4).heap.size 65 i0 _ 2 32 Try.underlying25 hi0 hz0 hz1 hz2 rfl (by decide) _ _ _ rfl (World.ownsRow.alloc ho5 (.cells #[.string y.1, .string y.2] 65)) _ rfl [y] (pr_one_at (heap_alloc_new w5 (.cells #[.string y.1, .string y.2] 65))) prC_len prC_one (by unfold maxLen; simp; omega) (by simp; omega) (by simp; omega) ?_
              intro x6 w6 ho6 hg6
              have hb6 : Below (w4).heap.size (w4) w6 := Below.grown (hb5.alloc hz5 (.cells #[.string y.1, .string y.2] 65)) hg6 (by simp; omega) (fun k hk => (ho5.lt k hk).1)
              refine hK.out _ _ ?_ (fun hHeld => ?_)
              · exact HS2.out _ hb6
              clear hK K
              (try simp only [Act.put]); (try simp only [List.setIfInBounds_toArray]); (try simp only [List.set_cons_succ]); (try simp only [List.set_cons_zero])
              have hz6 := hb6.size
              refine wpAnyH_ready (rs := [11]) (by kernel_rfl) (by simp) ?_
              refine AllReadyH.cons rfl (fun K hK => ?_) AllReadyH.nil
              refine step_append_R (c := prC) (d := some 40) rfl rfl (.tmp 36) (.tmp 39) 25 rfl (w4).heap.size 65 i0 _ 2 32 Try.underlying25 hi0 hz0 hz1 hz2 rfl (by decide) _ _ _ rfl ho6 _ rfl D (readsR_kept HBc.out hb6) prC_len prC_one (by unfold maxLen; simp; omega) (by simp; omega) hz6 ?_
              intro x7 w7 ho7 hg7
              have hb7 : Below (w4).heap.size (w4) w7 := Below.grown hb6 hg7 hz6 (fun k hk => (ho6.lt k hk).1)
              refine hK.out _ _ ?_ (fun hHeld => ?_)
              · exact HS2.out _ hb7
              clear hK K
              (try simp only [Act.put]); (try simp only [List.setIfInBounds_toArray]); (try simp only [List.set_cons_succ]); (try simp only [List.set_cons_zero])
              refine takeH (i := 12) (d := (some 9)) (v := ?_) rfl rfl (by kernel_rfl) (by kernel_rfl) (by kernel_rfl) (fun _ _ _ h => h) (by kernel_rfl) ?_ (by assumption) ?_
              rotate_left
              · (intro w hSw; (try dsimp only at hSw); go_simp; try with_reducible rfl)
              (try simp only [Act.put]); (try simp only [List.setIfInBounds_toArray]); (try simp only [List.set_cons_succ]); (try simp only [List.set_cons_zero])
              refine wpAnyH_done (by kernel_rfl) ?_ _
              have hB7 : Below w.heap.size w w7 := hBq.trans (hb7.mono (by omega))
              have hoF0 : PrOwns w7 (w4).heap.size x7 (T ++ y :: D) := by
                unfold PrOwns OwnsR
                rw [List.length_append, List.length_cons, List.flatMap_append, List.flatMap_cons]
                have h7 := ho7
                simp only [List.length_cons, List.length_nil, List.flatMap_cons, List.flatMap_nil, List.append_nil, List.nil_append, Nat.zero_add, List.append_assoc] at h7
                rw [show T.length + (D.length + 1) = T.length + 1 + D.length by omega]
                exact h7
              have hoF : PrOwns w7 w.heap.size x7 (T ++ y :: D) := ownsR_base hoF0 hwq2
              have hinl : (T ++ y :: D).length ≤ 17 := by rw [List.length_append, List.length_cons]; omega
              obtain ⟨ax, cx, hxv⟩ := readsR_shape (ownsR_reads prC_len hoF)
              subst hxv
              have hb7z := hB7.size
              clear hHeld HA HBc HS2 ho5 hg5 hb5 ho6 hg6 hb6 ho7 hg7 hb7 hoF0 hBq
              generalize T ++ y :: D = O at *
              go_wp2_with fail
              refine (specFieldsOk_any _ O _ (ownsR_reads prC_len hoF) (by omega)).mono ?_
              rintro e w8 ⟨rfl, hb8⟩
              have hB8 := hB7.trans (hb8.mono hb7z)
              have ho8 := ownsR_kept hoF hb8
              have hz8 := hB8.size
              clear hb8 hoF hB7
              cases hok2 : prOkB O with
              | true =>
                have HR : Hid (prPutR l y = O) := by show _ = _; unfold prPutR; rw [HOK.out, HPL.out, hok2]; rfl
                have HB : Hid (prPutB l y = true) := by show _ = _; unfold prPutB; rw [HOK.out, HPL.out, hok2]; rfl
                have HF : Hid (prPutF l y = !prThere l y.1) := by show _ = _; unfold prPutF; rw [HB.out]; rfl
                clear hok2
                go_wp2_with fail
                go_ret3
                exact ⟨_, by rw [HF.out, HTH.out, HB.out]; rfl, by rw [HR.out]; exact ho8, hB8⟩
              | false =>
                have HR : Hid (prPutR l y = l) := by show _ = _; unfold prPutR; rw [HOK.out, HPL.out, hok2]; rfl
                have HB : Hid (prPutB l y = false) := by show _ = _; unfold prPutB; rw [HOK.out, HPL.out, hok2]; rfl
                have HF : Hid (prPutF l y = false) := by show _ = _; unfold prPutF; rw [HB.out]; rfl
                have ho9 : (w8.alloc (.cells #[] 65)).ownsRow w.heap.size 65 2 (.slice (some ⟨w8.heap.size, 0, none⟩) 0 0) 0 [] := World.ownsRow_lit w8 #[] 0 hz8 (by simp) rfl
                have hB9 : Below w.heap.size w (w8.alloc (.cells #[] 65)) := hB8.alloc hz8 _
                have hr9 := readsR_kept hr hB9
                clear hok2 ho8
                go_wp2_with (at_builtin; refine append_R (c := prC) rfl (.tmp 44) (.tmp 45) 25 rfl w.heap.size 65 i0 _ 2 32 Try.underlying25 hi0 hz0 hz1 hz2 rfl (by decide) _ _ _ rfl ho9 _ rfl l hr9 prC_len prC_one (by unfold maxLen; omega) (by omega) (by simp; omega) ?_)
                intro xa wa howna hgrowa
                have hoa : PrOwns wa w.heap.size xa l := by unfold PrOwns OwnsR; first | simpa using howna | simpa [h00] using howna
                have hBa : Below w.heap.size w wa := hB9.grown hgrowa (by simp; omega) (fun j hj => (ho9.lt j hj).1)
                clear howna hgrowa
                go_wp2_with fail
                go_ret3
                exact ⟨_, by rw [HF.out, HB.out]; rfl, by rw [HR.out]; exact hoa, hBa⟩
            · go_simp
              refine hK.out _ _ ?_ (fun hHeld => ?_)
              · exact HS2.out _ (((Below.refl (w4).heap.size (w4)).alloc (Nat.le_refl _) (.cells #[] 65)).alloc (by simp) (.cells #[.string y.1, .string y.2] 65)).drew
              clear hK K
              (try simp only [Act.put]); (try simp only [List.setIfInBounds_toArray]); (try simp only [List.set_cons_succ]); (try simp only [List.set_cons_zero])
              refine wpAnyH_ready (rs := [4]) (by kernel_rfl) (by simp) ?_
              refine AllReadyH.cons rfl (fun K hK => ?_) AllReadyH.nil
              refine step_append_R (c := prC) (d := some 33) rfl rfl (.tmp 29) (.tmp 32) 25 rfl (w4).heap.size 65 i0 _ 2 32 Try.underlying25 hi0 hz0 hz1 hz2 rfl (by decide) _ _ _ rfl (World.ownsRow.drew (World.ownsRow.alloc (World.ownsRow_lit (w4) #[] 0 (Nat.le_refl _) (by simp) rfl) (.cells #[.string y.1, .string y.2] 65))) _ rfl T (readsR_kept HA.out (((Below.refl (w4).heap.size (w4)).alloc (Nat.le_refl _) (.cells #[] 65)).alloc (by simp) (.cells #[.string y.1, .string y.2] 65)).drew) prC_len prC_one (by unfold maxLen; simp; omega) (by simp; omega) (by simp; omega) ?_
              intro x5 w5 ho5 hg5
              have hb5 : Below (w4).heap.size (w4) w5 := Below.grown (((Below.refl (w4).heap.size (w4)).alloc (Nat.le_refl _) (.cells #[] 65)).alloc (by simp) (.cells #[.string y.1, .string y.2] 65)).drew hg5 (by simp; omega) (fun k hk => by cases hk; exact Nat.le_refl _)
              refine hK.out _ _ ?_ (fun hHeld => ?_)
              · exact HS2.out _ hb5
              clear hK K
              (try simp only [Act.put]); (try simp only [List.setIfInBounds_toArray]); (try simp only [List.set_cons_succ]); (try simp only [List.set_cons_zero])
              have hz5 := hb5.size
              have hq5 : w5.heap[(w4).heap.size + 1]? = some (.cells #[.string y.1, .string y.2] 65) := (hg5.block ((w4).heap.size + 1) (by simp) (show some ((w4).heap.size + 1) ≠ some (w4).heap.size by simp)).trans (heap_alloc2_new (w4) (.cells #[] 65) (.cells #[.string y.1, .string y.2] 65))
              refine wpAnyH_ready (rs := [7]) (by kernel_rfl) (by simp) ?_
              refine AllReadyH.cons rfl (fun K hK => ?_) AllReadyH.nil
              refine step_append_R (c := prC) (d := some 36) rfl rfl (.tmp 33) (.tmp 35) 25 rfl (w4).heap.size 65 i0 _ 2 32 Try.underlying25 hi0 hz0 hz1 hz2 rfl (by decide) _ _ _ rfl ho5 _ rfl [y] (pr_one_at hq5) prC_len prC_one (by unfold maxLen; simp; omega) (by simp; omega) hz5 ?_
              intro x6 w6 ho6 hg6
              have hb6 : Below (w4).heap.size (w4) w6 := Below.grown hb5 hg6 hz5 (fun k hk => (ho5.lt k hk).1)
              refine hK.out _ _ ?_ (fun hHeld => ?_)
              · exact HS2.out _ hb6
              clear hK K
              (try simp only [Act.put]); (try simp only [List.setIfInBounds_toArray]); (try simp only [List.set_cons_succ]); (try simp only [List.set_cons_zero])
              have hz6 := hb6.size
              refine wpAnyH_ready (rs := [11]) (by kernel_rfl) (by simp) ?_
              refine AllReadyH.cons rfl (fun K hK => ?_) AllReadyH.nil
              refine step_append_R (c := prC) (d := some 40) rfl rfl (.tmp 36) (.tmp 39) 25 rfl (w4).heap.size 65 i0 _ 2 32 Try.underlying25 hi0 hz0 hz1 hz2 rfl (by decide) _ _ _ rfl ho6 _ rfl D (readsR_kept HBc.out hb6) prC_len prC_one (by unfold maxLen; simp; omega) (by simp; omega) hz6 ?_
              intro x7 w7 ho7 hg7
              have hb7 : Below (w4).heap.size (w4) w7 := Below.grown hb6 hg7 hz6 (fun k hk => (ho6.lt k hk).1)
              refine hK.out _ _ ?_ (fun hHeld => ?_)
              · exact HS2.out _ hb7
              clear hK K
              (try simp only [Act.put]); (try simp only [List.setIfInBounds_toArray]); (try simp only [List.set_cons_succ]); (try simp only [List.set_cons_zero])
              refine takeH (i := 12) (d := (some 9)) (v := ?_) rfl rfl (by kernel_rfl) (by kernel_rfl) (by kernel_rfl) (fun _ _ _ h => h) (by kernel_rfl) ?_ (by assumption) ?_
              rotate_left
              · (intro w hSw; (try dsimp only at hSw); go_simp; try with_reducible rfl)
              (try simp only [Act.put]); (try simp only [List.setIfInBounds_toArray]); (try simp only [List.set_cons_succ]); (try simp only [List.set_cons_zero])
              refine wpAnyH_done (by kernel_rfl) ?_ _
              have hB7 : Below w.heap.size w w7 := hBq.trans (hb7.mono (by omega))
              have hoF0 : PrOwns w7 (w4).heap.size x7 (T ++ y :: D) := by
                unfold PrOwns OwnsR
                rw [List.length_append, List.length_cons, List.flatMap_append, List.flatMap_cons]
                have h7 := ho7
                simp only [List.length_cons, List.length_nil, List.flatMap_cons, List.flatMap_nil, List.append_nil, List.nil_append, Nat.zero_add, List.append_assoc] at h7
                rw [show T.length + (D.length + 1) = T.length + 1 + D.length by omega]
                exact h7
              have hoF : PrOwns w7 w.heap.size x7 (T ++ y :: D) := ownsR_base hoF0 hwq2
              have hinl : (T ++ y :: D).length ≤ 17 := by rw [List.length_append, List.length_cons]; omega
              obtain ⟨ax, cx, hxv⟩ := readsR_shape (ownsR_reads prC_len hoF)
              subst hxv
              have hb7z := hB7.size
              clear hHeld HA HBc HS2 ho5 hg5 hb5 ho6 hg6 hb6 ho7 hg7 hb7 hoF0 hBq
              generalize T ++ y :: D = O at *
              go_wp2_with fail
              refine (specFieldsOk_any _ O _ (ownsR_reads prC_len hoF) (by omega)).mono ?_
              rintro e w8 ⟨rfl, hb8⟩
              have hB8 := hB7.trans (hb8.mono hb7z)
              have ho8 := ownsR_kept hoF hb8
              have hz8 := hB8.size
              clear hb8 hoF hB7
              cases hok2 : prOkB O with
              | true =>
                have HR : Hid (prPutR l y = O) := by show _ = _; unfold prPutR; rw [HOK.out, HPL.out, hok2]; rfl
                have HB : Hid (prPutB l y = true) := by show _ = _; unfold prPutB; rw [HOK.out, HPL.out, hok2]; rfl
                have HF : Hid (prPutF l y = !prThere l y.1) := by show _ = _; unfold prPutF; rw [HB.out]; rfl
                clear hok2
                go_wp2_with fail
                go_ret3
                exact ⟨_, by rw [HF.out, HTH.out, HB.out]; rfl, by rw [HR.out]; exact ho8, hB8⟩
              | false =>
                have HR : Hid (prPutR l y = l) := by show _ = _; unfold prPutR; rw [HOK.out, HPL.out, hok2]; rfl
                have HB : Hid (prPutB l y = false) := by show _ = _; unfold prPutB; rw [HOK.out, HPL.out, hok2]; rfl
                have HF : Hid (prPutF l y = false) := by show _ = _; unfold prPutF; rw [HB.out]; rfl
                have ho9 : (w8.alloc (.cells #[] 65)).ownsRow w.heap.size 65 2 (.slice (some ⟨w8.heap.size, 0, none⟩) 0 0) 0 [] := World.ownsRow_lit w8 #[] 0 hz8 (by simp) rfl
                have hB9 : Below w.heap.size w (w8.alloc (.cells #[] 65)) := hB8.alloc hz8 _
                have hr9 := readsR_kept hr hB9
                clear hok2 ho8
                go_wp2_with (at_builtin; refine append_R (c := prC) rfl (.tmp 44) (.tmp 45) 25 rfl w.heap.size 65 i0 _ 2 32 Try.underlying25 hi0 hz0 hz1 hz2 rfl (by decide) _ _ _ rfl ho9 _ rfl l hr9 prC_len prC_one (by unfold maxLen; omega) (by omega) (by simp; omega) ?_)
                intro xa wa howna hgrowa
                have hoa : PrOwns wa w.heap.size xa l := by unfold PrOwns OwnsR; first | simpa using howna | simpa [h00] using howna
                have hBa : Below w.heap.size w wa := hB9.grown hgrowa (by simp; omega) (fun j hj => (ho9.lt j hj).1)
                clear howna hgrowa
                go_wp2_with fail
                go_ret3
                exact ⟨_, by rw [HF.out, HB.out]; rfl, by rw [HR.out]; exact hoa, hBa⟩
          · go_simp
            refine hK.out _ _ ?_ (fun hHeld => ?_)
            · exact HS2.out _ ((Below.refl (w4).heap.size (w4)).alloc (Nat.le_refl _) (.cells #[.string y.1, .string y.2] 65)).drew
            clear hK K
            (try simp only [Act.put]); (try simp only [List.setIfInBounds_toArray]); (try simp only [List.set_cons_succ]); (try simp only [List.set_cons_zero])
            refine wpAnyH_ready (rs := [0]) (by kernel_rfl) (by simp) ?_
            refine AllReadyH.cons rfl (fun K hK => ?_) AllReadyH.nil
            go_simp
            refine hK.out _ _ ?_ (fun hHeld => ?_)
            · exact HS2.out _ (((Below.refl (w4).heap.size (w4)).alloc (Nat.le_refl _) (.cells #[.string y.1, .string y.2] 65)).alloc (by simp) (.cells #[] 65)).drew
            clear hK K
            (try simp only [Act.put]); (try simp only [List.setIfInBounds_toArray]); (try simp only [List.set_cons_succ]); (try simp only [List.set_cons_zero])
            refine wpAnyH_ready (rs := [4]) (by kernel_rfl) (by simp) ?_
            refine AllReadyH.cons rfl (fun K hK => ?_) AllReadyH.nil
            refine step_append_R (c := prC) (d := some 33) rfl rfl (.tmp 29) (.tmp 32) 25 rfl (w4).heap.size 65 i0 _ 2 32 Try.underlying25 hi0 hz0 hz1 hz2 rfl (by decide) _ _ _ rfl (World.ownsRow.drew hlitB) _ rfl T (readsR_kept HA.out (((Below.refl (w4).heap.size (w4)).alloc (Nat.le_refl _) (.cells #[.string y.1, .string y.2] 65)).alloc (by simp) (.cells #[] 65)).drew) prC_len prC_one (by unfold maxLen; simp; omega) (by simp; omega) (by simp; omega) ?_
            intro x5 w5 ho5 hg5
            have hb5 : Below (w4).heap.size (w4) w5 := Below.grown (((Below.refl (w4).heap.size (w4)).alloc (Nat.le_refl _) (.cells #[.string y.1, .string y.2] 65)).alloc (by simp) (.cells #[] 65)).drew hg5 (by simp; omega) (fun k hk => by cases hk; simp)
            refine hK.out _ _ ?_ (fun hHeld => ?_)
            · exact HS2.out _ hb5
            clear hK K
            (try simp only [Act.put]); (try simp only [List.setIfInBounds_toArray]); (try simp only [List.set_cons_succ]); (try simp only [List.set_cons_zero])
            have hz5 := hb5.size
            have hq5 : w5.heap[(w4).heap.size]? = some (.cells #[.string y.1, .string y.2] 65) := (hg5.block (w4).heap.size (by simp; omega) (show some (w4).heap.size ≠ some ((w4).heap.size + 1) by simp)).trans ((Below.heap_alloc ((w4).alloc (.cells #[.string y.1, .string y.2] 65)) (.cells #[] 65) (w4).heap.size (by simp)).trans (heap_alloc_new (w4) (.cells #[.string y.1, .string y.2] 65)))
            refine wpAnyH_ready (rs := [7]) (by kernel_rfl) (by simp) ?_
            refine AllReadyH.cons rfl (fun K hK => ?_) AllReadyH.nil
            refine step_append_R (c := prC) (d := some 36) rfl rfl (.tmp 33) (.tmp 35) 25 rfl (w4).heap.size 65 i0 _ 2 32 Try.underlying25 hi0 hz0 hz1 hz2 rfl (by decide) _ _ _ rfl ho5 _ rfl [y] (pr_one_at hq5) prC_len prC_one (by unfold maxLen; simp; omega) (by simp; omega) hz5 ?_
            intro x6 w6 ho6 hg6
            have hb6 : Below (w4).heap.size (w4) w6 := Below.grown hb5 hg6 hz5 (fun k hk => (ho5.lt k hk).1)
            refine hK.out _ _ ?_ (fun hHeld => ?_)
            · exact HS2.out _ hb6
            clear hK K
            (try simp only [Act.put]); (try simp only [List.setIfInBounds_toArray]); (try simp only [List.set_cons_succ]); (try simp only [List.set_cons_zero])
            have hz6 := hb6.size
            refine wpAnyH_ready (rs := [11]) (by kernel_rfl) (by simp) ?_
            refine AllReadyH.cons rfl (fun K hK => ?_) AllReadyH.nil
            refine step_append_R (c := prC) (d := some 40) rfl rfl (.tmp 36) (.tmp 39) 25 rfl (w4).heap.size 65 i0 _ 2 32 Try.underlying25 hi0 hz0 hz1 hz2 rfl (by decide) _ _ _ rfl ho6 _ rfl D (readsR_kept HBc.out hb6) prC_len prC_one (by unfold maxLen; simp; omega) (by simp; omega) hz6 ?_
            intro x7 w7 ho7 hg7
            have hb7 : Below (w4).heap.size (w4) w7 := Below.grown hb6 hg7 hz6 (fun k hk => (ho6.lt k hk).1)
            refine hK.out _ _ ?_ (fun hHeld => ?_)
            · exact HS2.out _ hb7
            clear hK K
            (try simp only [Act.put]); (try simp only [List.setIfInBounds_toArray]); (try simp only [List.set_cons_succ]); (try simp only [List.set_cons_zero])
            refine takeH (i := 12) (d := (some 9)) (v := ?_) rfl rfl (by kernel_rfl) (by kernel_rfl) (by kernel_rfl) (fun _ _ _ h => h) (by kernel_rfl) ?_ (by assumption) ?_
            rotate_left
            · (intro w hSw; (try dsimp only at hSw); go_simp; try with_reducible rfl)
            (try simp only [Act.put]); (try simp only [List.setIfInBounds_toArray]); (try simp only [List.set_cons_succ]); (try simp only [List.set_cons_zero])
            refine wpAnyH_done (by kernel_rfl) ?_ _
            have hB7 : Below w.heap.size w w7 := hBq.trans (hb7.mono (by omega))
            have hoF0 : PrOwns w7 (w4).heap.size x7 (T ++ y :: D) := by
              unfold PrOwns OwnsR
              rw [List.length_append, List.length_cons, List.flatMap_append, List.flatMap_cons]
              have h7 := ho7
              simp only [List.length_cons, List.length_nil, List.flatMap_cons, List.flatMap_nil, List.append_nil, List.nil_append, Nat.zero_add, List.append_assoc] at h7
              rw [show T.length + (D.length + 1) = T.length + 1 + D.length by omega]
              exact h7
            have hoF : PrOwns w7 w.heap.size x7 (T ++ y :: D) := ownsR_base hoF0 hwq2
            have hinl : (T ++ y :: D).length ≤ 17 := by rw [List.length_append, List.length_cons]; omega
            obtain ⟨ax, cx, hxv⟩ := readsR_shape (ownsR_reads prC_len hoF)
            subst hxv
            have hb7z := hB7.size
            clear hHeld HA HBc HS2 ho5 hg5 hb5 ho6 hg6 hb6 ho7 hg7 hb7 hoF0 hBq
            generalize T ++ y :: D = O at *
            go_wp2_with fail
            refine (specFieldsOk_any _ O _ (ownsR_reads prC_len hoF) (by omega)).mono ?_
            rintro e w8 ⟨rfl, hb8⟩
            have hB8 := hB7.trans (hb8.mono hb7z)
            have ho8 := ownsR_kept hoF hb8
            have hz8 := hB8.size
            clear hb8 hoF hB7
            cases hok2 : prOkB O with
            | true =>
              have HR : Hid (prPutR l y = O) := by show _ = _; unfold prPutR; rw [HOK.out, HPL.out, hok2]; rfl
              have HB : Hid (prPutB l y = true) := by show _ = _; unfold prPutB; rw [HOK.out, HPL.out, hok2]; rfl
              have HF : Hid (prPutF l y = !prThere l y.1) := by show _ = _; unfold prPutF; rw [HB.out]; rfl
              clear hok2
              go_wp2_with fail
              go_ret3
              exact ⟨_, by rw [HF.out, HTH.out, HB.out]; rfl, by rw [HR.out]; exact ho8, hB8⟩
            | false =>
              have HR : Hid (prPutR l y = l) := by show _ = _; unfold prPutR; rw [HOK.out, HPL.out, hok2]; rfl
              have HB : Hid (prPutB l y = false) := by show _ = _; unfold prPutB; rw [HOK.out, HPL.out, hok2]; rfl
              have HF : Hid (prPutF l y = false) := by show _ = _; unfold prPutF; rw [HB.out]; rfl
              have ho9 : (w8.alloc (.cells #[] 65)).ownsRow w.heap.size 65 2 (.slice (some ⟨w8.heap.size, 0, none⟩) 0 0) 0 [] := World.ownsRow_lit w8 #[] 0 hz8 (by simp) rfl
              have hB9 : Below w.heap.size w (w8.alloc (.cells #[] 65)) := hB8.alloc hz8 _
              have hr9 := readsR_kept hr hB9
              clear hok2 ho8
              go_wp2_with (at_builtin; refine append_R (c := prC) rfl (.tmp 44) (.tmp 45) 25 rfl w.heap.size 65 i0 _ 2 32 Try.underlying25 hi0 hz0 hz1 hz2 rfl (by decide) _ _ _ rfl ho9 _ rfl l hr9 prC_len prC_one (by unfold maxLen; omega) (by omega) (by simp; omega) ?_)
              intro xa wa howna hgrowa
              have hoa : PrOwns wa w.heap.size xa l := by unfold PrOwns OwnsR; first | simpa using howna | simpa [h00] using howna
              have hBa : Below w.heap.size w wa := hB9.grown hgrowa (by simp; omega) (fun j hj => (ho9.lt j hj).1)
              clear howna hgrowa
              go_wp2_with fail
              go_ret3
              exact ⟨_, by rw [HF.out, HB.out]; rfl, by rw [HR.out]; exact hoa, hBa⟩
        | some a =>
          obtain ⟨ab, ao2, asp⟩ := a
          have HA : Hid (ReadsR prC 2 w4 (.slice (some ⟨ab, ao2, asp⟩) 0 cap) T) := .inl ⟨hT0, _, _, rfl, by simp⟩
          have HBc : Hid (ReadsR prC 2 w4 (.slice (some ⟨ab, ao2, asp⟩) 0 cap) D) := .inl ⟨hD0, _, _, rfl, by simp⟩
          clear hT0 hD0 hcap
          go_wp2_with fail
          have HS2 : Hid (∀ w', Below (w4).heap.size (w4) w' → (w'.cell? ⟨w.heap.size, 0, none⟩ = some (.string y.1) ∧ w'.cell? ⟨w.heap.size, 1, none⟩ = some (.string y.2))) := fun w' h => ⟨(h.cell (p := ⟨w.heap.size, 0, none⟩) hwq).trans hq0, (h.cell (p := ⟨w.heap.size, 1, none⟩) hwq).trans hq1⟩
          have hlw : ∀ (A : Array Value), A.size = 0 → Below (w4).heap.size (w4) ((w4).alloc (.cells A 65)) := fun A _ => (Below.refl _ _).alloc (Nat.le_refl _) _
          clear hlw
          have hlitB : (((w4).alloc (.cells #[.string y.1, .string y.2] 65)).alloc (.cells #[] 65)).ownsRow (w4).heap.size 65 2 (.slice (some ⟨(w4).heap.size + 1, 0, none⟩) 0 0) 0 [] := by
            have := World.ownsRow_lit (base := (w4).heap.size) (e := 65) (size := 2) ((w4).alloc (.cells #[.string y.1, .string y.2] 65)) #[] 0 (by simp) (by simp) rfl
            rw [World.size_alloc] at this; exact this
          refine wp_region_held_drew (S := (fun w' => w'.cell? ⟨w.heap.size, 0, none⟩ = some (.string y.1) ∧ w'.cell? ⟨w.heap.size, 1, none⟩ = some (.string y.2))) (by kernel_rfl) (by exact HS2.out _ (Below.refl _ _).drew) (fun hHeld => ?_)
          refine takeH (i := 1) (d := (some 30)) (v := ?_) rfl rfl (by kernel_rfl) (by kernel_rfl) (by kernel_rfl) (fun _ _ _ h => h) (by kernel_rfl) ?_ (by assumption) ?_
          rotate_left
          · (intro w hSw; (try dsimp only at hSw); go_simp; try with_reducible rfl)
          try simp only [Act.put, List.setIfInBounds_toArray, List.set_cons_succ, List.set_cons_zero]
          refine takeH (i := 2) (d := (some 31)) (v := ?_) rfl rfl (by kernel_rfl) (by kernel_rfl) (by kernel_rfl) (fun _ _ _ h => h) (by kernel_rfl) ?_ (by assumption) ?_
          rotate_left
          · (intro w hSw; (try dsimp only at hSw); go_simp; try with_reducible rfl)
          try simp only [Act.put, List.setIfInBounds_toArray, List.set_cons_succ, List.set_cons_zero]
          refine takeH (i := 3) (d := (some 32)) (v := ?_) rfl rfl (by kernel_rfl) (by kernel_rfl) (by kernel_rfl) (fun _ _ _ h => h) (by kernel_rfl) ?_ (by assumption) ?_
          rotate_left
          · (intro w hSw; (try dsimp only at hSw); go_simp; try with_reducible rfl)
          try simp only [Act.put, List.setIfInBounds_toArray, List.set_cons_succ, List.set_cons_zero]
          refine takeH (i := 5) (d := (some 34)) (v := ?_) rfl rfl (by kernel_rfl) (by kernel_rfl) (by kernel_rfl) (fun _ _ _ h => h) (by kernel_rfl) ?_ (by assumption) ?_
          rotate_left
          · (intro w hSw; (try dsimp only at hSw); go_simp; try with_reducible rfl)
          try simp only [Act.put, List.setIfInBounds_toArray, List.set_cons_succ, List.set_cons_zero]
          refine takeH (i := 8) (d := (some 37)) (v := ?_) rfl rfl (by kernel_rfl) (by kernel_rfl) (by kernel_rfl) (fun _ _ _ h => h) (by kernel_rfl) ?_ (by assumption) ?_
          rotate_left
          · (intro w hSw; (try dsimp only at hSw); go_simp; try with_reducible rfl)
          try simp only [Act.put, List.setIfInBounds_toArray, List.set_cons_succ, List.set_cons_zero]
          refine takeH (i := 9) (d := (some 38)) (v := ?_) rfl rfl (by kernel_rfl) (by kernel_rfl) (by kernel_rfl) (fun _ _ _ h => h) (by kernel_rfl) ?_ (by assumption) ?_
          rotate_left
          · (intro w hSw; (try dsimp only at hSw); go_simp; try with_reducible rfl)
          try simp only [Act.put, List.setIfInBounds_toArray, List.set_cons_succ, List.set_cons_zero]
          refine takeH (i := 10) (d := (some 39)) (v := ?_) rfl rfl (by kernel_rfl) (by kernel_rfl) (by kernel_rfl) (fun _ _ _ h => h) (by kernel_rfl) ?_ (by assumption) ?_
          rotate_left
          · (intro w hSw; (try dsimp only at hSw); go_simp; try with_reducible rfl)
          try simp only [Act.put, List.setIfInBounds_toArray, List.set_cons_succ, List.set_cons_zero]
          refine wpAnyH_ready (rs := [0, 6]) (by kernel_rfl) (by simp) ?_
          refine AllReadyH.cons rfl (fun K hK => ?_) (AllReadyH.cons rfl (fun K hK => ?_) AllReadyH.nil)
          · go_simp
            refine hK.out _ _ ?_ (fun hHeld => ?_)
            · exact HS2.out _ ((Below.refl (w4).heap.size (w4)).alloc (Nat.le_refl _) (.cells #[] 65)).drew
            clear hK K
            (try simp only [Act.put]); (try simp only [List.setIfInBounds_toArray]); (try simp only [List.set_cons_succ]); (try simp only [List.set_cons_zero])
            refine wpAnyH_ready (rs := [4, 6]) (by kernel_rfl) (by simp) ?_
            refine AllReadyH.cons rfl (fun K hK => ?_) (AllReadyH.cons rfl (fun K hK => ?_) AllReadyH.nil)
            · refine step_append_R (c := prC) (d := some 33) rfl rfl (.tmp 29) (.tmp 32) 25 rfl (w4).heap.size 65 i0 _ 2 32 Try.underlying25 hi0 hz0 hz1 hz2 rfl (by decide) _ _ _ rfl (World.ownsRow.drew (World.ownsRow_lit (w4) #[] 0 (Nat.le_refl _) (by simp) rfl)) _ rfl T (readsR_kept HA.out ((Below.refl (w4).heap.size (w4)).alloc (Nat.le_refl _) (.cells #[] 65)).drew) prC_len prC_one (by unfold maxLen; simp; omega) (by simp; omega) (by simp) ?_
              intro x5 w5 ho5 hg5
              have hb5 : Below (w4).heap.size (w4) w5 := Below.grown ((Below.refl (w4).heap.size (w4)).alloc (Nat.le_refl _) (.cells #[] 65)).drew hg5 (by simp) (fun k hk => by cases hk; exact Nat.le_refl _)
              refine hK.out _ _ ?_ (fun hHeld => ?_)
              · exact HS2.out _ hb5
              clear hK K
              (try simp only [Act.put]); (try simp only [List.setIfInBounds_toArray]); (try simp only [List.set_cons_succ]); (try simp only [List.set_cons_zero])
              have hz5 := hb5.size
              refine wpAnyH_ready (rs := [6]) (by kernel_rfl) (by simp) ?_
              refine AllReadyH.cons rfl (fun K hK => ?_) AllReadyH.nil
              go_simp
              refine hK.out _ _ ?_ (fun hHeld => ?_)
              · exact HS2.out _ (hb5.alloc hz5 (.cells #[.string y.1, .string y.2] 65))
              clear hK K
              (try simp only [Act.put]); (try simp only [List.setIfInBounds_toArray]); (try simp only [List.set_cons_succ]); (try simp only [List.set_cons_zero])
              refine wpAnyH_ready (rs := [7]) (by kernel_rfl) (by simp) ?_
              refine AllReadyH.cons rfl (fun K hK => ?_) AllReadyH.nil
              refine step_append_R (c := prC) (d := some 36) rfl rfl (.tmp 33) (.tmp 35) 25 rfl (w4).heap.size 65 i0 _ 2 32 Try.underlying25 hi0 hz0 hz1 hz2 rfl (by decide) _ _ _ rfl (World.ownsRow.alloc ho5 (.cells #[.string y.1, .string y.2] 65)) _ rfl [y] (pr_one_at (heap_alloc_new w5 (.cells #[.string y.1, .string y.2] 65))) prC_len prC_one (by unfold maxLen; simp; omega) (by simp; omega) (by simp; omega) ?_
              intro x6 w6 ho6 hg6
              have hb6 : Below (w4).heap.size (w4) w6 := Below.grown (hb5.alloc hz5 (.cells #[.string y.1, .string y.2] 65)) hg6 (by simp; omega) (fun k hk => (ho5.lt k hk).1)
              refine hK.out _ _ ?_ (fun hHeld => ?_)
              · exact HS2.out _ hb6
              clear hK K
              (try simp only [Act.put]); (try simp only [List.setIfInBounds_toArray]); (try simp only [List.set_cons_succ]); (try simp only [List.set_cons_zero])
              have hz6 := hb6.size
              refine wpAnyH_ready (rs := [11]) (by kernel_rfl) (by simp) ?_
              refine AllReadyH.cons rfl (fun K hK => ?_) AllReadyH.nil
              refine step_append_R (c := prC) (d := some 40) rfl rfl (.tmp 36) (.tmp 39) 25 rfl (w4).heap.size 65 i0 _ 2 32 Try.underlying25 hi0 hz0 hz1 hz2 rfl (by decide) _ _ _ rfl ho6 _ rfl D (readsR_kept HBc.out hb6) prC_len prC_one (by unfold maxLen; simp; omega) (by simp; omega) hz6 ?_
              intro x7 w7 ho7 hg7
              have hb7 : Below (w4).heap.size (w4) w7 := Below.grown hb6 hg7 hz6 (fun k hk => (ho6.lt k hk).1)
              refine hK.out _ _ ?_ (fun hHeld => ?_)
              · exact HS2.out _ hb7
              clear hK K
              (try simp only [Act.put]); (try simp only [List.setIfInBounds_toArray]); (try simp only [List.set_cons_succ]); (try simp only [List.set_cons_zero])
              refine takeH (i := 12) (d := (some 9)) (v := ?_) rfl rfl (by kernel_rfl) (by kernel_rfl) (by kernel_rfl) (fun _ _ _ h => h) (by kernel_rfl) ?_ (by assumption) ?_
              rotate_left
              · (intro w hSw; (try dsimp only at hSw); go_simp; try with_reducible rfl)
              (try simp only [Act.put]); (try simp only [List.setIfInBounds_toArray]); (try simp only [List.set_cons_succ]); (try simp only [List.set_cons_zero])
              refine wpAnyH_done (by kernel_rfl) ?_ _
              have hB7 : Below w.heap.size w w7 := hBq.trans (hb7.mono (by omega))
              have hoF0 : PrOwns w7 (w4).heap.size x7 (T ++ y :: D) := by
                unfold PrOwns OwnsR
                rw [List.length_append, List.length_cons, List.flatMap_append, List.flatMap_cons]
                have h7 := ho7
                simp only [List.length_cons, List.length_nil, List.flatMap_cons, List.flatMap_nil, List.append_nil, List.nil_append, Nat.zero_add, List.append_assoc] at h7
                rw [show T.length + (D.length + 1) = T.length + 1 + D.length by omega]
                exact h7
              have hoF : PrOwns w7 w.heap.size x7 (T ++ y :: D) := ownsR_base hoF0 hwq2
              have hinl : (T ++ y :: D).length ≤ 17 := by rw [List.length_append, List.length_cons]; omega
              obtain ⟨ax, cx, hxv⟩ := readsR_shape (ownsR_reads prC_len hoF)
              subst hxv
              have hb7z := hB7.size
              clear hHeld HA HBc HS2 ho5 hg5 hb5 ho6 hg6 hb6 ho7 hg7 hb7 hoF0 hBq
              generalize T ++ y :: D = O at *
              go_wp2_with fail
              refine (specFieldsOk_any _ O _ (ownsR_reads prC_len hoF) (by omega)).mono ?_
              rintro e w8 ⟨rfl, hb8⟩
              have hB8 := hB7.trans (hb8.mono hb7z)
              have ho8 := ownsR_kept hoF hb8
              have hz8 := hB8.size
              clear hb8 hoF hB7
              cases hok2 : prOkB O with
              | true =>
                have HR : Hid (prPutR l y = O) := by show _ = _; unfold prPutR; rw [HOK.out, HPL.out, hok2]; rfl
                have HB : Hid (prPutB l y = true) := by show _ = _; unfold prPutB; rw [HOK.out, HPL.out, hok2]; rfl
                have HF : Hid (prPutF l y = !prThere l y.1) := by show _ = _; unfold prPutF; rw [HB.out]; rfl
                clear hok2
                go_wp2_with fail
                go_ret3
                exact ⟨_, by rw [HF.out, HTH.out, HB.out]; rfl, by rw [HR.out]; exact ho8, hB8⟩
              | false =>
                have HR : Hid (prPutR l y = l) := by show _ = _; unfold prPutR; rw [HOK.out, HPL.out, hok2]; rfl
                have HB : Hid (prPutB l y = false) := by show _ = _; unfold prPutB; rw [HOK.out, HPL.out, hok2]; rfl
                have HF : Hid (prPutF l y = false) := by show _ = _; unfold prPutF; rw [HB.out]; rfl
                have ho9 : (w8.alloc (.cells #[] 65)).ownsRow w.heap.size 65 2 (.slice (some ⟨w8.heap.size, 0, none⟩) 0 0) 0 [] := World.ownsRow_lit w8 #[] 0 hz8 (by simp) rfl
                have hB9 : Below w.heap.size w (w8.alloc (.cells #[] 65)) := hB8.alloc hz8 _
                have hr9 := readsR_kept hr hB9
                clear hok2 ho8
                go_wp2_with (at_builtin; refine append_R (c := prC) rfl (.tmp 44) (.tmp 45) 25 rfl w.heap.size 65 i0 _ 2 32 Try.underlying25 hi0 hz0 hz1 hz2 rfl (by decide) _ _ _ rfl ho9 _ rfl l hr9 prC_len prC_one (by unfold maxLen; omega) (by omega) (by simp; omega) ?_)
                intro xa wa howna hgrowa
                have hoa : PrOwns wa w.heap.size xa l := by unfold PrOwns OwnsR; first | simpa using howna | simpa [h00] using howna
                have hBa : Below w.heap.size w wa := hB9.grown hgrowa (by simp; omega) (fun j hj => (ho9.lt j hj).1)
                clear howna hgrowa
                go_wp2_with fail
                go_ret3
                exact ⟨_, by rw [HF.out, HB.out]; rfl, by rw [HR.out]; exact hoa, hBa⟩
            · go_simp
              refine hK.out _ _ ?_ (fun hHeld => ?_)
              · exact HS2.out _ (((Below.refl (w4).heap.size (w4)).alloc (Nat.le_refl _) (.cells #[] 65)).alloc (by simp) (.cells #[.string y.1, .string y.2] 65)).drew
              clear hK K
              (try simp only [Act.put]); (try simp only [List.setIfInBounds_toArray]); (try simp only [List.set_cons_succ]); (try simp only [List.set_cons_zero])
              refine wpAnyH_ready (rs := [4]) (by kernel_rfl) (by simp) ?_
              refine AllReadyH.cons rfl (fun K hK => ?_) AllReadyH.nil
              refine step_append_R (c := prC) (d := some 33) rfl rfl (.tmp 29) (.tmp 32) 25 rfl (w4).heap.size 65 i0 _ 2 32 Try.underlying25 hi0 hz0 hz1 hz2 rfl (by decide) _ _ _ rfl (World.ownsRow.drew (World.ownsRow.alloc (World.ownsRow_lit (w4) #[] 0 (Nat.le_refl _) (by simp) rfl) (.cells #[.string y.1, .string y.2] 65))) _ rfl T (readsR_kept HA.out (((Below.refl (w4).heap.size (w4)).alloc (Nat.le_refl _) (.cells #[] 65)).alloc (by simp) (.cells #[.string y.1, .string y.2] 65)).drew) prC_len prC_one (by unfold maxLen; simp; omega) (by simp; omega) (by simp; omega) ?_
              intro x5 w5 ho5 hg5
              have hb5 : Below (w4).heap.size (w4) w5 := Below.grown (((Below.refl (w4).heap.size (w4)).alloc (Nat.le_refl _) (.cells #[] 65)).alloc (by simp) (.cells #[.string y.1, .string y.2] 65)).drew hg5 (by simp; omega) (fun k hk => by cases hk; exact Nat.le_refl _)
              refine hK.out _ _ ?_ (fun hHeld => ?_)
              · exact HS2.out _ hb5
              clear hK K
              (try simp only [Act.put]); (try simp only [List.setIfInBounds_toArray]); (try simp only [List.set_cons_succ]); (try simp only [List.set_cons_zero])
              have hz5 := hb5.size
              have hq5 : w5.heap[(w4).heap.size + 1]? = some (.cells #[.string y.1, .string y.2] 65) := (hg5.block ((w4).heap.size + 1) (by simp) (show some ((w4).heap.size + 1) ≠ some (w4).heap.size by simp)).trans (heap_alloc2_new (w4) (.cells #[] 65) (.cells #[.string y.1, .string y.2] 65))
              refine wpAnyH_ready (rs := [7]) (by kernel_rfl) (by simp) ?_
              refine AllReadyH.cons rfl (fun K hK => ?_) AllReadyH.nil
              refine step_append_R (c := prC) (d := some 36) rfl rfl (.tmp 33) (.tmp 35) 25 rfl (w4).heap.size 65 i0 _ 2 32 Try.underlying25 hi0 hz0 hz1 hz2 rfl (by decide) _ _ _ rfl ho5 _ rfl [y] (pr_one_at hq5) prC_len prC_one (by unfold maxLen; simp; omega) (by simp; omega) hz5 ?_
              intro x6 w6 ho6 hg6
              have hb6 : Below (w4).heap.size (w4) w6 := Below.grown hb5 hg6 hz5 (fun k hk => (ho5.lt k hk).1)
              refine hK.out _ _ ?_ (fun hHeld => ?_)
              · exact HS2.out _ hb6
              clear hK K
              (try simp only [Act.put]); (try simp only [List.setIfInBounds_toArray]); (try simp only [List.set_cons_succ]); (try simp only [List.set_cons_zero])
              have hz6 := hb6.size
              refine wpAnyH_ready (rs := [11]) (by kernel_rfl) (by simp) ?_
              refine AllReadyH.cons rfl (fun K hK => ?_) AllReadyH.nil
              refine step_append_R (c := prC) (d := some 40) rfl rfl (.tmp 36) (.tmp 39) 25 rfl (w4).heap.size 65 i0 _ 2 32 Try.underlying25 hi0 hz0 hz1 hz2 rfl (by decide) _ _ _ rfl ho6 _ rfl D (readsR_kept HBc.out hb6) prC_len prC_one (by unfold maxLen; simp; omega) (by simp; omega) hz6 ?_
              intro x7 w7 ho7 hg7
              have hb7 : Below (w4).heap.size (w4) w7 := Below.grown hb6 hg7 hz6 (fun k hk => (ho6.lt k hk).1)
              refine hK.out _ _ ?_ (fun hHeld => ?_)
              · exact HS2.out _ hb7
              clear hK K
              (try simp only [Act.put]); (try simp only [List.setIfInBounds_toArray]); (try simp only [List.set_cons_succ]); (try simp only [List.set_cons_zero])
              refine takeH (i := 12) (d := (some 9)) (v := ?_) rfl rfl (by kernel_rfl) (by kernel_rfl) (by kernel_rfl) (fun _ _ _ h => h) (by kernel_rfl) ?_ (by assumption) ?_
              rotate_left
              · (intro w hSw; (try dsimp only at hSw); go_simp; try with_reducible rfl)
              (try simp only [Act.put]); (try simp only [List.setIfInBounds_toArray]); (try simp only [List.set_cons_succ]); (try simp only [List.set_cons_zero])
              refine wpAnyH_done (by kernel_rfl) ?_ _
              have hB7 : Below w.heap.size w w7 := hBq.trans (hb7.mono (by omega))
              have hoF0 : PrOwns w7 (w4).heap.size x7 (T ++ y :: D) := by
                unfold PrOwns OwnsR
                rw [List.length_append, List.length_cons, List.flatMap_append, List.flatMap_cons]
                have h7 := ho7
                simp only [List.length_cons, List.length_nil, List.flatMap_cons, List.flatMap_nil, List.append_nil, List.nil_append, Nat.zero_add, List.append_assoc] at h7
                rw [show T.length + (D.length + 1) = T.length + 1 + D.length by omega]
                exact h7
              have hoF : PrOwns w7 w.heap.size x7 (T ++ y :: D) := ownsR_base hoF0 hwq2
              have hinl : (T ++ y :: D).length ≤ 17 := by rw [List.length_append, List.length_cons]; omega
              obtain ⟨ax, cx, hxv⟩ := readsR_shape (ownsR_reads prC_len hoF)
              subst hxv
              have hb7z := hB7.size
              clear hHeld HA HBc HS2 ho5 hg5 hb5 ho6 hg6 hb6 ho7 hg7 hb7 hoF0 hBq
              generalize T ++ y :: D = O at *
              go_wp2_with fail
              refine (specFieldsOk_any _ O _ (ownsR_reads prC_len hoF) (by omega)).mono ?_
              rintro e w8 ⟨rfl, hb8⟩
              have hB8 := hB7.trans (hb8.mono hb7z)
              have ho8 := ownsR_kept hoF hb8
              have hz8 := hB8.size
              clear hb8 hoF hB7
              cases hok2 : prOkB O with
              | true =>
                have HR : Hid (prPutR l y = O) := by show _ = _; unfold prPutR; rw [HOK.out, HPL.out, hok2]; rfl
                have HB : Hid (prPutB l y = true) := by show _ = _; unfold prPutB; rw [HOK.out, HPL.out, hok2]; rfl
                have HF : Hid (prPutF l y = !prThere l y.1) := by show _ = _; unfold prPutF; rw [HB.out]; rfl
                clear hok2
                go_wp2_with fail
                go_ret3
                exact ⟨_, by rw [HF.out, HTH.out, HB.out]; rfl, by rw [HR.out]; exact ho8, hB8⟩
              | false =>
                have HR : Hid (prPutR l y = l) := by show _ = _; unfold prPutR; rw [HOK.out, HPL.out, hok2]; rfl
                have HB : Hid (prPutB l y = false) := by show _ = _; unfold prPutB; rw [HOK.out, HPL.out, hok2]; rfl
                have HF : Hid (prPutF l y = false) := by show _ = _; unfold prPutF; rw [HB.out]; rfl
                have ho9 : (w8.alloc (.cells #[] 65)).ownsRow w.heap.size 65 2 (.slice (some ⟨w8.heap.size, 0, none⟩) 0 0) 0 [] := World.ownsRow_lit w8 #[] 0 hz8 (by simp) rfl
                have hB9 : Below w.heap.size w (w8.alloc (.cells #[] 65)) := hB8.alloc hz8 _
                have hr9 := readsR_kept hr hB9
                clear hok2 ho8
                go_wp2_with (at_builtin; refine append_R (c := prC) rfl (.tmp 44) (.tmp 45) 25 rfl w.heap.size 65 i0 _ 2 32 Try.underlying25 hi0 hz0 hz1 hz2 rfl (by decide) _ _ _ rfl ho9 _ rfl l hr9 prC_len prC_one (by unfold maxLen; omega) (by omega) (by simp; omega) ?_)
                intro xa wa howna hgrowa
                have hoa : PrOwns wa w.heap.size xa l := by unfold PrOwns OwnsR; first | simpa using howna | simpa [h00] using howna
                have hBa : Below w.heap.size w wa := hB9.grown hgrowa (by simp; omega) (fun j hj => (ho9.lt j hj).1)
                clear howna hgrowa
                go_wp2_with fail
                go_ret3
                exact ⟨_, by rw [HF.out, HB.out]; rfl, by rw [HR.out]; exact hoa, hBa⟩
          · go_simp
            refine hK.out _ _ ?_ (fun hHeld => ?_)
            · exact HS2.out _ ((Below.refl (w4).heap.size (w4)).alloc (Nat.le_refl _) (.cells #[.string y.1, .string y.2] 65)).drew
            clear hK K
            (try simp only [Act.put]); (try simp only [List.setIfInBounds_toArray]); (try simp only [List.set_cons_succ]); (try simp only [List.set_cons_zero])
            refine wpAnyH_ready (rs := [0]) (by kernel_rfl) (by simp) ?_
            refine AllReadyH.cons rfl (fun K hK => ?_) AllReadyH.nil
            go_simp
            refine hK.out _ _ ?_ (fun hHeld => ?_)
            · exact HS2.out _ (((Below.refl (w4).heap.size (w4)).alloc (Nat.le_refl _) (.cells #[.string y.1, .string y.2] 65)).alloc (by simp) (.cells #[] 65)).drew
            clear hK K
            (try simp only [Act.put]); (try simp only [List.setIfInBounds_toArray]); (try simp only [List.set_cons_succ]); (try simp only [List.set_cons_zero])
            refine wpAnyH_ready (rs := [4]) (by kernel_rfl) (by simp) ?_
            refine AllReadyH.cons rfl (fun K hK => ?_) AllReadyH.nil
            refine step_append_R (c := prC) (d := some 33) rfl rfl (.tmp 29) (.tmp 32) 25 rfl (w4).heap.size 65 i0 _ 2 32 Try.underlying25 hi0 hz0 hz1 hz2 rfl (by decide) _ _ _ rfl (World.ownsRow.drew hlitB) _ rfl T (readsR_kept HA.out (((Below.refl (w4).heap.size (w4)).alloc (Nat.le_refl _) (.cells #[.string y.1, .string y.2] 65)).alloc (by simp) (.cells #[] 65)).drew) prC_len prC_one (by unfold maxLen; simp; omega) (by simp; omega) (by simp; omega) ?_
            intro x5 w5 ho5 hg5
            have hb5 : Below (w4).heap.size (w4) w5 := Below.grown (((Below.refl (w4).heap.size (w4)).alloc (Nat.le_refl _) (.cells #[.string y.1, .string y.2] 65)).alloc (by simp) (.cells #[] 65)).drew hg5 (by simp; omega) (fun k hk => by cases hk; simp)
            refine hK.out _ _ ?_ (fun hHeld => ?_)
            · exact HS2.out _ hb5
            clear hK K
            (try simp only [Act.put]); (try simp only [List.setIfInBounds_toArray]); (try simp only [List.set_cons_succ]); (try simp only [List.set_cons_zero])
            have hz5 := hb5.size
            have hq5 : w5.heap[(w4).heap.size]? = some (.cells #[.string y.1, .string y.2] 65) := (hg5.block (w4).heap.size (by simp; omega) (show some (w4).heap.size ≠ some ((w4).heap.size + 1) by simp)).trans ((Below.heap_alloc ((w4).alloc (.cells #[.string y.1, .string y.2] 65)) (.cells #[] 65) (w4).heap.size (by simp)).trans (heap_alloc_new (w4) (.cells #[.string y.1, .string y.2] 65)))
            refine wpAnyH_ready (rs := [7]) (by kernel_rfl) (by simp) ?_
            refine AllReadyH.cons rfl (fun K hK => ?_) AllReadyH.nil
            refine step_append_R (c := prC) (d := some 36) rfl rfl (.tmp 33) (.tmp 35) 25 rfl (w4).heap.size 65 i0 _ 2 32 Try.underlying25 hi0 hz0 hz1 hz2 rfl (by decide) _ _ _ rfl ho5 _ rfl [y] (pr_one_at hq5) prC_len prC_one (by unfold maxLen; simp; omega) (by simp; omega) hz5 ?_
            intro x6 w6 ho6 hg6
            have hb6 : Below (w4).heap.size (w4) w6 := Below.grown hb5 hg6 hz5 (fun k hk => (ho5.lt k hk).1)
            refine hK.out _ _ ?_ (fun hHeld => ?_)
            · exact HS2.out _ hb6
            clear hK K
            (try simp only [Act.put]); (try simp only [List.setIfInBounds_toArray]); (try simp only [List.set_cons_succ]); (try simp only [List.set_cons_zero])
            have hz6 := hb6.size
            refine wpAnyH_ready (rs := [11]) (by kernel_rfl) (by simp) ?_
            refine AllReadyH.cons rfl (fun K hK => ?_) AllReadyH.nil
            refine step_append_R (c := prC) (d := some 40) rfl rfl (.tmp 36) (.tmp 39) 25 rfl (w4).heap.size 65 i0 _ 2 32 Try.underlying25 hi0 hz0 hz1 hz2 rfl (by decide) _ _ _ rfl ho6 _ rfl D (readsR_kept HBc.out hb6) prC_len prC_one (by unfold maxLen; simp; omega) (by simp; omega) hz6 ?_
            intro x7 w7 ho7 hg7
            have hb7 : Below (w4).heap.size (w4) w7 := Below.grown hb6 hg7 hz6 (fun k hk => (ho6.lt k hk).1)
            refine hK.out _ _ ?_ (fun hHeld => ?_)
            · exact HS2.out _ hb7
            clear hK K
            (try simp only [Act.put]); (try simp only [List.setIfInBounds_toArray]); (try simp only [List.set_cons_succ]); (try simp only [List.set_cons_zero])
            refine takeH (i := 12) (d := (some 9)) (v := ?_) rfl rfl (by kernel_rfl) (by kernel_rfl) (by kernel_rfl) (fun _ _ _ h => h) (by kernel_rfl) ?_ (by assumption) ?_
            rotate_left
            · (intro w hSw; (try dsimp only at hSw); go_simp; try with_reducible rfl)
            (try simp only [Act.put]); (try simp only [List.setIfInBounds_toArray]); (try simp only [List.set_cons_succ]); (try simp only [List.set_cons_zero])
            refine wpAnyH_done (by kernel_rfl) ?_ _
            have hB7 : Below w.heap.size w w7 := hBq.trans (hb7.mono (by omega))
            have hoF0 : PrOwns w7 (w4).heap.size x7 (T ++ y :: D) := by
              unfold PrOwns OwnsR
              rw [List.length_append, List.length_cons, List.flatMap_append, List.flatMap_cons]
              have h7 := ho7
              simp only [List.length_cons, List.length_nil, List.flatMap_cons, List.flatMap_nil, List.append_nil, List.nil_append, Nat.zero_add, List.append_assoc] at h7
              rw [show T.length + (D.length + 1) = T.length + 1 + D.length by omega]
              exact h7
            have hoF : PrOwns w7 w.heap.size x7 (T ++ y :: D) := ownsR_base hoF0 hwq2
            have hinl : (T ++ y :: D).length ≤ 17 := by rw [List.length_append, List.length_cons]; omega
            obtain ⟨ax, cx, hxv⟩ := readsR_shape (ownsR_reads prC_len hoF)
            subst hxv
            have hb7z := hB7.size
            clear hHeld HA HBc HS2 ho5 hg5 hb5 ho6 hg6 hb6 ho7 hg7 hb7 hoF0 hBq
            generalize T ++ y :: D = O at *
            go_wp2_with fail
            refine (specFieldsOk_any _ O _ (ownsR_reads prC_len hoF) (by omega)).mono ?_
            rintro e w8 ⟨rfl, hb8⟩
            have hB8 := hB7.trans (hb8.mono hb7z)
            have ho8 := ownsR_kept hoF hb8
            have hz8 := hB8.size
            clear hb8 hoF hB7
            cases hok2 : prOkB O with
            | true =>
              have HR : Hid (prPutR l y = O) := by show _ = _; unfold prPutR; rw [HOK.out, HPL.out, hok2]; rfl
              have HB : Hid (prPutB l y = true) := by show _ = _; unfold prPutB; rw [HOK.out, HPL.out, hok2]; rfl
              have HF : Hid (prPutF l y = !prThere l y.1) := by show _ = _; unfold prPutF; rw [HB.out]; rfl
              clear hok2
              go_wp2_with fail
              go_ret3
              exact ⟨_, by rw [HF.out, HTH.out, HB.out]; rfl, by rw [HR.out]; exact ho8, hB8⟩
            | false =>
              have HR : Hid (prPutR l y = l) := by show _ = _; unfold prPutR; rw [HOK.out, HPL.out, hok2]; rfl
              have HB : Hid (prPutB l y = false) := by show _ = _; unfold prPutB; rw [HOK.out, HPL.out, hok2]; rfl
              have HF : Hid (prPutF l y = false) := by show _ = _; unfold prPutF; rw [HB.out]; rfl
              have ho9 : (w8.alloc (.cells #[] 65)).ownsRow w.heap.size 65 2 (.slice (some ⟨w8.heap.size, 0, none⟩) 0 0) 0 [] := World.ownsRow_lit w8 #[] 0 hz8 (by simp) rfl
              have hB9 : Below w.heap.size w (w8.alloc (.cells #[] 65)) := hB8.alloc hz8 _
              have hr9 := readsR_kept hr hB9
              clear hok2 ho8
              go_wp2_with (at_builtin; refine append_R (c := prC) rfl (.tmp 44) (.tmp 45) 25 rfl w.heap.size 65 i0 _ 2 32 Try.underlying25 hi0 hz0 hz1 hz2 rfl (by decide) _ _ _ rfl ho9 _ rfl l hr9 prC_len prC_one (by unfold maxLen; omega) (by omega) (by simp; omega) ?_)
              intro xa wa howna hgrowa
              have hoa : PrOwns wa w.heap.size xa l := by unfold PrOwns OwnsR; first | simpa using howna | simpa [h00] using howna
              have hBa : Below w.heap.size w wa := hB9.grown hgrowa (by simp; omega) (fun j hj => (ho9.lt j hj).1)
              clear howna hgrowa
              go_wp2_with fail
              go_ret3
              exact ⟨_, by rw [HF.out, HB.out]; rfl, by rw [HR.out]; exact hoa, hBa⟩
      · simp only [Value.slice.injEq, true_and] at hv
        obtain ⟨rfl, rfl⟩ := hv
        unfold maxLen at hcm
        have HA : Hid (ReadsR prC 2 w4 (.slice (some ⟨b, off, none⟩) k cap) T) := by
          have := readsR_cut (sz := 2) (c := prC) hb hnc (by unfold maxLen; omega) hc (ao := some ⟨b, off, none⟩) (a := 0) (e := k) (n := k) (k := cap) (fun _ => by simp) (by simp) (Nat.zero_le _) (by omega) (by omega) (by omega)
          rw [List.drop_zero, hT] at this; exact this
        obtain ⟨ab, hab⟩ : ∃ ab, (if cap = k then some (⟨b, off, none⟩ : Addr) else some ⟨b, off + k * 2, none⟩) = ab := ⟨_, rfl⟩
        have HBc : Hid (ReadsR prC 2 w4 (.slice ab (l.length - k) (cap - k)) D) := by
          have := readsR_cut (sz := 2) (c := prC) hb hnc (by unfold maxLen; omega) hc (ao := ab) (a := k) (e := l.length) (n := l.length - k) (k := cap - k) (fun h => by rw [← hab, if_neg h]) (by rw [← hab]; split <;> simp) (by omega) (Nat.le_refl _) rfl rfl
          rw [List.take_length, hD] at this; exact this
        have hj1 : (k : Int) ≤ (cap : Int) := by omega
        have hj2 : (k : Int) ≤ (l.length : Int) := by omega
        have hj3 : (l.length : Int) ≤ (cap : Int) := by omega
        clear hc hT hD
        go_wp2_with fail
        have HS2 : Hid (∀ w', Below (w4).heap.size (w4) w' → (w'.cell? ⟨w.heap.size, 0, none⟩ = some (.string y.1) ∧ w'.cell? ⟨w.heap.size, 1, none⟩ = some (.string y.2))) := fun w' h => ⟨(h.cell (p := ⟨w.heap.size, 0, none⟩) hwq).trans hq0, (h.cell (p := ⟨w.heap.size, 1, none⟩) hwq).trans hq1⟩
        have hlw : ∀ (A : Array Value), A.size = 0 → Below (w4).heap.size (w4) ((w4).alloc (.cells A 65)) := fun A _ => (Below.refl _ _).alloc (Nat.le_refl _) _
        clear hlw
        have hlitB : (((w4).alloc (.cells #[.string y.1, .string y.2] 65)).alloc (.cells #[] 65)).ownsRow (w4).heap.size 65 2 (.slice (some ⟨(w4).heap.size + 1, 0, none⟩) 0 0) 0 [] := by
          have := World.ownsRow_lit (base := (w4).heap.size) (e := 65) (size := 2) ((w4).alloc (.cells #[.string y.1, .string y.2] 65)) #[] 0 (by simp) (by simp) rfl
          rw [World.size_alloc] at this; exact this
        refine wp_region_held_drew (S := (fun w' => w'.cell? ⟨w.heap.size, 0, none⟩ = some (.string y.1) ∧ w'.cell? ⟨w.heap.size, 1, none⟩ = some (.string y.2))) (by kernel_rfl) (by exact HS2.out _ (Below.refl _ _).drew) (fun hHeld => ?_)
        refine takeH (i := 1) (d := (some 30)) (v := ?_) rfl rfl (by kernel_rfl) (by kernel_rfl) (by kernel_rfl) (fun _ _ _ h => h) (by kernel_rfl) ?_ (by assumption) ?_
        rotate_left
        · (intro w hSw; (try dsimp only at hSw); go_simp; try with_reducible rfl)
        try simp only [Act.put, List.setIfInBounds_toArray, List.set_cons_succ, List.set_cons_zero]
        refine takeH (i := 2) (d := (some 31)) (v := ?_) rfl rfl (by kernel_rfl) (by kernel_rfl) (by kernel_rfl) (fun _ _ _ h => h) (by kernel_rfl) ?_ (by assumption) ?_
        rotate_left
        · (intro w hSw; (try dsimp only at hSw); go_simp; try with_reducible rfl)
        try simp only [Act.put, List.setIfInBounds_toArray, List.set_cons_succ, List.set_cons_zero]
        refine takeH (i := 3) (d := (some 32)) (v := ?_) rfl rfl (by kernel_rfl) (by kernel_rfl) (by kernel_rfl) (fun _ _ _ h => h) (by kernel_rfl) ?_ (by assumption) ?_
        rotate_left
        · (intro w hSw; (try dsimp only at hSw); go_simp; try with_reducible rfl)
        try simp only [Act.put, List.setIfInBounds_toArray, List.set_cons_succ, List.set_cons_zero]
        refine takeH (i := 5) (d := (some 34)) (v := ?_) rfl rfl (by kernel_rfl) (by kernel_rfl) (by kernel_rfl) (fun _ _ _ h => h) (by kernel_rfl) ?_ (by assumption) ?_
        rotate_left
        · (intro w hSw; (try dsimp only at hSw); go_simp; try with_reducible rfl)
        try simp only [Act.put, List.setIfInBounds_toArray, List.set_cons_succ, List.set_cons_zero]
        refine takeH (i := 8) (d := (some 37)) (v := ?_) rfl rfl (by kernel_rfl) (by kernel_rfl) (by kernel_rfl) (fun _ _ _ h => h) (by kernel_rfl) ?_ (by assumption) ?_
        rotate_left
        · (intro w hSw; (try dsimp only at hSw); go_simp; try with_reducible rfl)
        try simp only [Act.put, List.setIfInBounds_toArray, List.set_cons_succ, List.set_cons_zero]
        refine takeH (i := 9) (d := (some 38)) (v := ?_) rfl rfl (by kernel_rfl) (by kernel_rfl) (by kernel_rfl) (fun _ _ _ h => h) (by kernel_rfl) ?_ (by assumption) ?_
        rotate_left
        · (intro w hSw; (try dsimp only at hSw); go_simp; try with_reducible rfl)
        try simp only [Act.put, List.setIfInBounds_toArray, List.set_cons_succ, List.set_cons_zero]
        refine takeH (i := 10) (d := (some 39)) (v := ?_) rfl rfl (by kernel_rfl) (by kernel_rfl) (by kernel_rfl) (fun _ _ _ h => h) (by kernel_rfl) ?_ (by assumption) ?_
        rotate_left
        · (intro w hSw; (try dsimp only at hSw); go_simp; try with_reducible rfl)
        try simp only [Act.put, List.setIfInBounds_toArray, List.set_cons_succ, List.set_cons_zero]
        refine wpAnyH_ready (rs := [0, 6]) (by kernel_rfl) (by simp) ?_
        refine AllReadyH.cons rfl (fun K hK => ?_) (AllReadyH.cons rfl (fun K hK => ?_) AllReadyH.nil)
        · go_simp
          refine hK.out _ _ ?_ (fun hHeld => ?_)
          · exact HS2.out _ ((Below.refl (w4).heap.size (w4)).alloc (Nat.le_refl _) (.cells #[] 65)).drew
          clear hK K
          (try simp only [Act.put]); (try simp only [List.setIfInBounds_toArray]); (try simp only [List.set_cons_succ]); (try simp only [List.set_cons_zero])
          refine wpAnyH_ready (rs := [4, 6]) (by kernel_rfl) (by simp) ?_
          refine AllReadyH.cons rfl (fun K hK => ?_) (AllReadyH.cons rfl (fun K hK => ?_) AllReadyH.nil)
          · refine step_append_R (c := prC) (d := some 33) rfl rfl (.tmp 29) (.tmp 32) 25 rfl (w4).heap.size 65 i0 _ 2 32 Try.underlying25 hi0 hz0 hz1 hz2 rfl (by decide) _ _ _ rfl (World.ownsRow.drew (World.ownsRow_lit (w4) #[] 0 (Nat.le_refl _) (by simp) rfl)) _ rfl T (readsR_kept HA.out ((Below.refl (w4).heap.size (w4)).alloc (Nat.le_refl _) (.cells #[] 65)).drew) prC_len prC_one (by unfold maxLen; simp; omega) (by simp; omega) (by simp) ?_
            intro x5 w5 ho5 hg5
            have hb5 : Below (w4).heap.size (w4) w5 := Below.grown ((Below.refl (w4).heap.size (w4)).alloc (Nat.le_refl _) (.cells #[] 65)).drew hg5 (by simp) (fun k hk => by cases hk; exact Nat.le_refl _)
            refine hK.out _ _ ?_ (fun hHeld => ?_)
            · exact HS2.out _ hb5
            clear hK K
            (try simp only [Act.put]); (try simp only [List.setIfInBounds_toArray]); (try simp only [List.set_cons_succ]); (try simp only [List.set_cons_zero])
            have hz5 := hb5.size
            refine wpAnyH_ready (rs := [6]) (by kernel_rfl) (by simp) ?_
            refine AllReadyH.cons rfl (fun K hK => ?_) AllReadyH.nil
            go_simp
            refine hK.out _ _ ?_ (fun hHeld => ?_)
            · exact HS2.out _ (hb5.alloc hz5 (.cells #[.string y.1, .string y.2] 65))
            clear hK K
            (try simp only [Act.put]); (try simp only [List.setIfInBounds_toArray]); (try simp only [List.set_cons_succ]); (try simp only [List.set_cons_zero])
            refine wpAnyH_ready (rs := [7]) (by kernel_rfl) (by simp) ?_
            refine AllReadyH.cons rfl (fun K hK => ?_) AllReadyH.nil
            refine step_append_R (c := prC) (d := some 36) rfl rfl (.tmp 33) (.tmp 35) 25 rfl (w4).heap.size 65 i0 _ 2 32 Try.underlying25 hi0 hz0 hz1 hz2 rfl (by decide) _ _ _ rfl (World.ownsRow.alloc ho5 (.cells #[.string y.1, .string y.2] 65)) _ rfl [y] (pr_one_at (heap_alloc_new w5 (.cells #[.string y.1, .string y.2] 65))) prC_len prC_one (by unfold maxLen; simp; omega) (by simp; omega) (by simp; omega) ?_
            intro x6 w6 ho6 hg6
            have hb6 : Below (w4).heap.size (w4) w6 := Below.grown (hb5.alloc hz5 (.cells #[.string y.1, .string y.2] 65)) hg6 (by simp; omega) (fun k hk => (ho5.lt k hk).1)
            refine hK.out _ _ ?_ (fun hHeld => ?_)
            · exact HS2.out _ hb6
            clear hK K
            (try simp only [Act.put]); (try simp only [List.setIfInBounds_toArray]); (try simp only [List.set_cons_succ]); (try simp only [List.set_cons_zero])
            have hz6 := hb6.size
            refine wpAnyH_ready (rs := [11]) (by kernel_rfl) (by simp) ?_
            refine AllReadyH.cons rfl (fun K hK => ?_) AllReadyH.nil
            refine step_append_R (c := prC) (d := some 40) rfl rfl (.tmp 36) (.tmp 39) 25 rfl (w4).heap.size 65 i0 _ 2 32 Try.underlying25 hi0 hz0 hz1 hz2 rfl (by decide) _ _ _ rfl ho6 _ rfl D (readsR_kept HBc.out hb6) prC_len prC_one (by unfold maxLen; simp; omega) (by simp; omega) hz6 ?_
            intro x7 w7 ho7 hg7
            have hb7 : Below (w4).heap.size (w4) w7 := Below.grown hb6 hg7 hz6 (fun k hk => (ho6.lt k hk).1)
            refine hK.out _ _ ?_ (fun hHeld => ?_)
            · exact HS2.out _ hb7
            clear hK K
            (try simp only [Act.put]); (try simp only [List.setIfInBounds_toArray]); (try simp only [List.set_cons_succ]); (try simp only [List.set_cons_zero])
            refine takeH (i := 12) (d := (some 9)) (v := ?_) rfl rfl (by kernel_rfl) (by kernel_rfl) (by kernel_rfl) (fun _ _ _ h => h) (by kernel_rfl) ?_ (by assumption) ?_
            rotate_left
            · (intro w hSw; (try dsimp only at hSw); go_simp; try with_reducible rfl)
            (try simp only [Act.put]); (try simp only [List.setIfInBounds_toArray]); (try simp only [List.set_cons_succ]); (try simp only [List.set_cons_zero])
            refine wpAnyH_done (by kernel_rfl) ?_ _
            have hB7 : Below w.heap.size w w7 := hBq.trans (hb7.mono (by omega))
            have hoF0 : PrOwns w7 (w4).heap.size x7 (T ++ y :: D) := by
              unfold PrOwns OwnsR
              rw [List.length_append, List.length_cons, List.flatMap_append, List.flatMap_cons]
              have h7 := ho7
              simp only [List.length_cons, List.length_nil, List.flatMap_cons, List.flatMap_nil, List.append_nil, List.nil_append, Nat.zero_add, List.append_assoc] at h7
              rw [show T.length + (D.length + 1) = T.length + 1 + D.length by omega]
              exact h7
            have hoF : PrOwns w7 w.heap.size x7 (T ++ y :: D) := ownsR_base hoF0 hwq2
            have hinl : (T ++ y :: D).length ≤ 17 := by rw [List.length_append, List.length_cons]; omega
            obtain ⟨ax, cx, hxv⟩ := readsR_shape (ownsR_reads prC_len hoF)
            subst hxv
            have hb7z := hB7.size
            clear hHeld HA HBc HS2 ho5 hg5 hb5 ho6 hg6 hb6 ho7 hg7 hb7 hoF0 hBq
            generalize T ++ y :: D = O at *
            go_wp2_with fail
            refine (specFieldsOk_any _ O _ (ownsR_reads prC_len hoF) (by omega)).mono ?_
            rintro e w8 ⟨rfl, hb8⟩
            have hB8 := hB7.trans (hb8.mono hb7z)
            have ho8 := ownsR_kept hoF hb8
            have hz8 := hB8.size
            clear hb8 hoF hB7
            cases hok2 : prOkB O with
            | true =>
              have HR : Hid (prPutR l y = O) := by show _ = _; unfold prPutR; rw [HOK.out, HPL.out, hok2]; rfl
              have HB : Hid (prPutB l y = true) := by show _ = _; unfold prPutB; rw [HOK.out, HPL.out, hok2]; rfl
              have HF : Hid (prPutF l y = !prThere l y.1) := by show _ = _; unfold prPutF; rw [HB.out]; rfl
              clear hok2
              go_wp2_with fail
              go_ret3
              exact ⟨_, by rw [HF.out, HTH.out, HB.out]; rfl, by rw [HR.out]; exact ho8, hB8⟩
            | false =>
              have HR : Hid (prPutR l y = l) := by show _ = _; unfold prPutR; rw [HOK.out, HPL.out, hok2]; rfl
              have HB : Hid (prPutB l y = false) := by show _ = _; unfold prPutB; rw [HOK.out, HPL.out, hok2]; rfl
              have HF : Hid (prPutF l y = false) := by show _ = _; unfold prPutF; rw [HB.out]; rfl
              have ho9 : (w8.alloc (.cells #[] 65)).ownsRow w.heap.size 65 2 (.slice (some ⟨w8.heap.size, 0, none⟩) 0 0) 0 [] := World.ownsRow_lit w8 #[] 0 hz8 (by simp) rfl
              have hB9 : Below w.heap.size w (w8.alloc (.cells #[] 65)) := hB8.alloc hz8 _
              have hr9 := readsR_kept hr hB9
              clear hok2 ho8
              go_wp2_with (at_builtin; refine append_R (c := prC) rfl (.tmp 44) (.tmp 45) 25 rfl w.heap.size 65 i0 _ 2 32 Try.underlying25 hi0 hz0 hz1 hz2 rfl (by decide) _ _ _ rfl ho9 _ rfl l hr9 prC_len prC_one (by unfold maxLen; omega) (by omega) (by simp; omega) ?_)
              intro xa wa howna hgrowa
              have hoa : PrOwns wa w.heap.size xa l := by unfold PrOwns OwnsR; first | simpa using howna | simpa [h00] using howna
              have hBa : Below w.heap.size w wa := hB9.grown hgrowa (by simp; omega) (fun j hj => (ho9.lt j hj).1)
              clear howna hgrowa
              go_wp2_with fail
              go_ret3
              exact ⟨_, by rw [HF.out, HB.out]; rfl, by rw [HR.out]; exact hoa, hBa⟩
          · go_simp
            refine hK.out _ _ ?_ (fun hHeld => ?_)
            · exact HS2.out _ (((Below.refl (w4).heap.size (w4)).alloc (Nat.le_refl _) (.cells #[] 65)).alloc (by simp) (.cells #[.string y.1, .string y.2] 65)).drew
            clear hK K
            (try simp only [Act.put]); (try simp only [List.setIfInBounds_toArray]); (try simp only [List.set_cons_succ]); (try simp only [List.set_cons_zero])
            refine wpAnyH_ready (rs := [4]) (by kernel_rfl) (by simp) ?_
            refine AllReadyH.cons rfl (fun K hK => ?_) AllReadyH.nil
            refine step_append_R (c := prC) (d := some 33) rfl rfl (.tmp 29) (.tmp 32) 25 rfl (w4).heap.size 65 i0 _ 2 32 Try.underlying25 hi0 hz0 hz1 hz2 rfl (by decide) _ _ _ rfl (World.ownsRow.drew (World.ownsRow.alloc (World.ownsRow_lit (w4) #[] 0 (Nat.le_refl _) (by simp) rfl) (.cells #[.string y.1, .string y.2] 65))) _ rfl T (readsR_kept HA.out (((Below.refl (w4).heap.size (w4)).alloc (Nat.le_refl _) (.cells #[] 65)).alloc (by simp) (.cells #[.string y.1, .string y.2] 65)).drew) prC_len prC_one (by unfold maxLen; simp; omega) (by simp; omega) (by simp; omega) ?_
            intro x5 w5 ho5 hg5
            have hb5 : Below (w4).heap.size (w4) w5 := Below.grown (((Below.refl (w4).heap.size (w4)).alloc (Nat.le_refl _) (.cells #[] 65)).alloc (by simp) (.cells #[.string y.1, .string y.2] 65)).drew hg5 (by simp; omega) (fun k hk => by cases hk; exact Nat.le_refl _)
            refine hK.out _ _ ?_ (fun hHeld => ?_)
            · exact HS2.out _ hb5
            clear hK K
            (try simp only [Act.put]); (try simp only [List.setIfInBounds_toArray]); (try simp only [List.set_cons_succ]); (try simp only [List.set_cons_zero])
            have hz5 := hb5.size
            have hq5 : w5.heap[(w4).heap.size + 1]? = some (.cells #[.string y.1, .string y.2] 65) := (hg5.block ((w4).heap.size + 1) (by simp) (show some ((w4).heap.size + 1) ≠ some (w4).heap.size by simp)).trans (heap_alloc2_new (w4) (.cells #[] 65) (.cells #[.string y.1, .string y.2] 65))
            refine wpAnyH_ready (rs := [7]) (by kernel_rfl) (by simp) ?_
            refine AllReadyH.cons rfl (fun K hK => ?_) AllReadyH.nil
            refine step_append_R (c := prC) (d := some 36) rfl rfl (.tmp 33) (.tmp 35) 25 rfl (w4).heap.size 65 i0 _ 2 32 Try.underlying25 hi0 hz0 hz1 hz2 rfl (by decide) _ _ _ rfl ho5 _ rfl [y] (pr_one_at hq5) prC_len prC_one (by unfold maxLen; simp; omega) (by simp; omega) hz5 ?_
            intro x6 w6 ho6 hg6
            have hb6 : Below (w4).heap.size (w4) w6 := Below.grown hb5 hg6 hz5 (fun k hk => (ho5.lt k hk).1)
            refine hK.out _ _ ?_ (fun hHeld => ?_)
            · exact HS2.out _ hb6
            clear hK K
            (try simp only [Act.put]); (try simp only [List.setIfInBounds_toArray]); (try simp only [List.set_cons_succ]); (try simp only [List.set_cons_zero])
            have hz6 := hb6.size
            refine wpAnyH_ready (rs := [11]) (by kernel_rfl) (by simp) ?_
            refine AllReadyH.cons rfl (fun K hK => ?_) AllReadyH.nil
            refine step_append_R (c := prC) (d := some 40) rfl rfl (.tmp 36) (.tmp 39) 25 rfl (w4).heap.size 65 i0 _ 2 32 Try.underlying25 hi0 hz0 hz1 hz2 rfl (by decide) _ _ _ rfl ho6 _ rfl D (readsR_kept HBc.out hb6) prC_len prC_one (by unfold maxLen; simp; omega) (by simp; omega) hz6 ?_
            intro x7 w7 ho7 hg7
            have hb7 : Below (w4).heap.size (w4) w7 := Below.grown hb6 hg7 hz6 (fun k hk => (ho6.lt k hk).1)
            refine hK.out _ _ ?_ (fun hHeld => ?_)
            · exact HS2.out _ hb7
            clear hK K
            (try simp only [Act.put]); (try simp only [List.setIfInBounds_toArray]); (try simp only [List.set_cons_succ]); (try simp only [List.set_cons_zero])
            refine takeH (i := 12) (d := (some 9)) (v := ?_) rfl rfl (by kernel_rfl) (by kernel_rfl) (by kernel_rfl) (fun _ _ _ h => h) (by kernel_rfl) ?_ (by assumption) ?_
            rotate_left
            · (intro w hSw; (try dsimp only at hSw); go_simp; try with_reducible rfl)
            (try simp only [Act.put]); (try simp only [List.setIfInBounds_toArray]); (try simp only [List.set_cons_succ]); (try simp only [List.set_cons_zero])
            refine wpAnyH_done (by kernel_rfl) ?_ _
            have hB7 : Below w.heap.size w w7 := hBq.trans (hb7.mono (by omega))
            have hoF0 : PrOwns w7 (w4).heap.size x7 (T ++ y :: D) := by
              unfold PrOwns OwnsR
              rw [List.length_append, List.length_cons, List.flatMap_append, List.flatMap_cons]
              have h7 := ho7
              simp only [List.length_cons, List.length_nil, List.flatMap_cons, List.flatMap_nil, List.append_nil, List.nil_append, Nat.zero_add, List.append_assoc] at h7
              rw [show T.length + (D.length + 1) = T.length + 1 + D.length by omega]
              exact h7
            have hoF : PrOwns w7 w.heap.size x7 (T ++ y :: D) := ownsR_base hoF0 hwq2
            have hinl : (T ++ y :: D).length ≤ 17 := by rw [List.length_append, List.length_cons]; omega
            obtain ⟨ax, cx, hxv⟩ := readsR_shape (ownsR_reads prC_len hoF)
            subst hxv
            have hb7z := hB7.size
            clear hHeld HA HBc HS2 ho5 hg5 hb5 ho6 hg6 hb6 ho7 hg7 hb7 hoF0 hBq
            generalize T ++ y :: D = O at *
            go_wp2_with fail
            refine (specFieldsOk_any _ O _ (ownsR_reads prC_len hoF) (by omega)).mono ?_
            rintro e w8 ⟨rfl, hb8⟩
            have hB8 := hB7.trans (hb8.mono hb7z)
            have ho8 := ownsR_kept hoF hb8
            have hz8 := hB8.size
            clear hb8 hoF hB7
            cases hok2 : prOkB O with
            | true =>
              have HR : Hid (prPutR l y = O) := by show _ = _; unfold prPutR; rw [HOK.out, HPL.out, hok2]; rfl
              have HB : Hid (prPutB l y = true) := by show _ = _; unfold prPutB; rw [HOK.out, HPL.out, hok2]; rfl
              have HF : Hid (prPutF l y = !prThere l y.1) := by show _ = _; unfold prPutF; rw [HB.out]; rfl
              clear hok2
              go_wp2_with fail
              go_ret3
              exact ⟨_, by rw [HF.out, HTH.out, HB.out]; rfl, by rw [HR.out]; exact ho8, hB8⟩
            | false =>
              have HR : Hid (prPutR l y = l) := by show _ = _; unfold prPutR; rw [HOK.out, HPL.out, hok2]; rfl
              have HB : Hid (prPutB l y = false) := by show _ = _; unfold prPutB; rw [HOK.out, HPL.out, hok2]; rfl
              have HF : Hid (prPutF l y = false) := by show _ = _; unfold prPutF; rw [HB.out]; rfl
              have ho9 : (w8.alloc (.cells #[] 65)).ownsRow w.heap.size 65 2 (.slice (some ⟨w8.heap.size, 0, none⟩) 0 0) 0 [] := World.ownsRow_lit w8 #[] 0 hz8 (by simp) rfl
              have hB9 : Below w.heap.size w (w8.alloc (.cells #[] 65)) := hB8.alloc hz8 _
              have hr9 := readsR_kept hr hB9
              clear hok2 ho8
              go_wp2_with (at_builtin; refine append_R (c := prC) rfl (.tmp 44) (.tmp 45) 25 rfl w.heap.size 65 i0 _ 2 32 Try.underlying25 hi0 hz0 hz1 hz2 rfl (by decide) _ _ _ rfl ho9 _ rfl l hr9 prC_len prC_one (by unfold maxLen; omega) (by omega) (by simp; omega) ?_)
              intro xa wa howna hgrowa
              have hoa : PrOwns wa w.heap.size xa l := by unfold PrOwns OwnsR; first | simpa using howna | simpa [h00] using howna
              have hBa : Below w.heap.size w wa := hB9.grown hgrowa (by simp; omega) (fun j hj => (ho9.lt j hj).1)
              clear howna hgrowa
              go_wp2_with fail
              go_ret3
              exact ⟨_, by rw [HF.out, HB.out]; rfl, by rw [HR.out]; exact hoa, hBa⟩
        · go_simp
          refine hK.out _ _ ?_ (fun hHeld => ?_)
          · exact HS2.out _ ((Below.refl (w4).heap.size (w4)).alloc (Nat.le_refl _) (.cells #[.string y.1, .string y.2] 65)).drew
          clear hK K
          (try simp only [Act.put]); (try simp only [List.setIfInBounds_toArray]); (try simp only [List.set_cons_succ]); (try simp only [List.set_cons_zero])
          refine wpAnyH_ready (rs := [0]) (by kernel_rfl) (by simp) ?_
          refine AllReadyH.cons rfl (fun K hK => ?_) AllReadyH.nil
          go_simp
          refine hK.out _ _ ?_ (fun hHeld => ?_)
          · exact HS2.out _ (((Below.refl (w4).heap.size (w4)).alloc (Nat.le_refl _) (.cells #[.string y.1, .string y.2] 65)).alloc (by simp) (.cells #[] 65)).drew
          clear hK K
          (try simp only [Act.put]); (try simp only [List.setIfInBounds_toArray]); (try simp only [List.set_cons_succ]); (try simp only [List.set_cons_zero])
          refine wpAnyH_ready (rs := [4]) (by kernel_rfl) (by simp) ?_
          refine AllReadyH.cons rfl (fun K hK => ?_) AllReadyH.nil
          refine step_append_R (c := prC) (d := some 33) rfl rfl (.tmp 29) (.tmp 32) 25 rfl (w4).heap.size 65 i0 _ 2 32 Try.underlying25 hi0 hz0 hz1 hz2 rfl (by decide) _ _ _ rfl (World.ownsRow.drew hlitB) _ rfl T (readsR_kept HA.out (((Below.refl (w4).heap.size (w4)).alloc (Nat.le_refl _) (.cells #[.string y.1, .string y.2] 65)).alloc (by simp) (.cells #[] 65)).drew) prC_len prC_one (by unfold maxLen; simp; omega) (by simp; omega) (by simp; omega) ?_
          intro x5 w5 ho5 hg5
          have hb5 : Below (w4).heap.size (w4) w5 := Below.grown (((Below.refl (w4).heap.size (w4)).alloc (Nat.le_refl _) (.cells #[.string y.1, .string y.2] 65)).alloc (by simp) (.cells #[] 65)).drew hg5 (by simp; omega) (fun k hk => by cases hk; simp)
          refine hK.out _ _ ?_ (fun hHeld => ?_)
          · exact HS2.out _ hb5
          clear hK K
          (try simp only [Act.put]); (try simp only [List.setIfInBounds_toArray]); (try simp only [List.set_cons_succ]); (try simp only [List.set_cons_zero])
          have hz5 := hb5.size
          have hq5 : w5.heap[(w4).heap.size]? = some (.cells #[.string y.1, .string y.2] 65) := (hg5.block (w4).heap.size (by simp; omega) (show some (w4).heap.size ≠ some ((w4).heap.size + 1) by simp)).trans ((Below.heap_alloc ((w4).alloc (.cells #[.string y.1, .string y.2] 65)) (.cells #[] 65) (w4).heap.size (by simp)).trans (heap_alloc_new (w4) (.cells #[.string y.1, .string y.2] 65)))
          refine wpAnyH_ready (rs := [7]) (by kernel_rfl) (by simp) ?_
          refine AllReadyH.cons rfl (fun K hK => ?_) AllReadyH.nil
          refine step_append_R (c := prC) (d := some 36) rfl rfl (.tmp 33) (.tmp 35) 25 rfl (w4).heap.size 65 i0 _ 2 32 Try.underlying25 hi0 hz0 hz1 hz2 rfl (by decide) _ _ _ rfl ho5 _ rfl [y] (pr_one_at hq5) prC_len prC_one (by unfold maxLen; simp; omega) (by simp; omega) hz5 ?_
          intro x6 w6 ho6 hg6
          have hb6 : Below (w4).heap.size (w4) w6 := Below.grown hb5 hg6 hz5 (fun k hk => (ho5.lt k hk).1)
          refine hK.out _ _ ?_ (fun hHeld => ?_)
          · exact HS2.out _ hb6
          clear hK K
          (try simp only [Act.put]); (try simp only [List.setIfInBounds_toArray]); (try simp only [List.set_cons_succ]); (try simp only [List.set_cons_zero])
          have hz6 := hb6.size
          refine wpAnyH_ready (rs := [11]) (by kernel_rfl) (by simp) ?_
          refine AllReadyH.cons rfl (fun K hK => ?_) AllReadyH.nil
          refine step_append_R (c := prC) (d := some 40) rfl rfl (.tmp 36) (.tmp 39) 25 rfl (w4).heap.size 65 i0 _ 2 32 Try.underlying25 hi0 hz0 hz1 hz2 rfl (by decide) _ _ _ rfl ho6 _ rfl D (readsR_kept HBc.out hb6) prC_len prC_one (by unfold maxLen; simp; omega) (by simp; omega) hz6 ?_
          intro x7 w7 ho7 hg7
          have hb7 : Below (w4).heap.size (w4) w7 := Below.grown hb6 hg7 hz6 (fun k hk => (ho6.lt k hk).1)
          refine hK.out _ _ ?_ (fun hHeld => ?_)
          · exact HS2.out _ hb7
          clear hK K
          (try simp only [Act.put]); (try simp only [List.setIfInBounds_toArray]); (try simp only [List.set_cons_succ]); (try simp only [List.set_cons_zero])
          refine takeH (i := 12) (d := (some 9)) (v := ?_) rfl rfl (by kernel_rfl) (by kernel_rfl) (by kernel_rfl) (fun _ _ _ h => h) (by kernel_rfl) ?_ (by assumption) ?_
          rotate_left
          · (intro w hSw; (try dsimp only at hSw); go_simp; try with_reducible rfl)
          (try simp only [Act.put]); (try simp only [List.setIfInBounds_toArray]); (try simp only [List.set_cons_succ]); (try simp only [List.set_cons_zero])
          refine wpAnyH_done (by kernel_rfl) ?_ _
          have hB7 : Below w.heap.size w w7 := hBq.trans (hb7.mono (by omega))
          have hoF0 : PrOwns w7 (w4).heap.size x7 (T ++ y :: D) := by
            unfold PrOwns OwnsR
            rw [List.length_append, List.length_cons, List.flatMap_append, List.flatMap_cons]
            have h7 := ho7
            simp only [List.length_cons, List.length_nil, List.flatMap_cons, List.flatMap_nil, List.append_nil, List.nil_append, Nat.zero_add, List.append_assoc] at h7
            rw [show T.length + (D.length + 1) = T.length + 1 + D.length by omega]
            exact h7
          have hoF : PrOwns w7 w.heap.size x7 (T ++ y :: D) := ownsR_base hoF0 hwq2
          have hinl : (T ++ y :: D).length ≤ 17 := by rw [List.length_append, List.length_cons]; omega
          obtain ⟨ax, cx, hxv⟩ := readsR_shape (ownsR_reads prC_len hoF)
          subst hxv
          have hb7z := hB7.size
          clear hHeld HA HBc HS2 ho5 hg5 hb5 ho6 hg6 hb6 ho7 hg7 hb7 hoF0 hBq
          generalize T ++ y :: D = O at *
          go_wp2_with fail
          refine (specFieldsOk_any _ O _ (ownsR_reads prC_len hoF) (by omega)).mono ?_
          rintro e w8 ⟨rfl, hb8⟩
          have hB8 := hB7.trans (hb8.mono hb7z)
          have ho8 := ownsR_kept hoF hb8
          have hz8 := hB8.size
          clear hb8 hoF hB7
          cases hok2 : prOkB O with
          | true =>
            have HR : Hid (prPutR l y = O) := by show _ = _; unfold prPutR; rw [HOK.out, HPL.out, hok2]; rfl
            have HB : Hid (prPutB l y = true) := by show _ = _; unfold prPutB; rw [HOK.out, HPL.out, hok2]; rfl
            have HF : Hid (prPutF l y = !prThere l y.1) := by show _ = _; unfold prPutF; rw [HB.out]; rfl
            clear hok2
            go_wp2_with fail
            go_ret3
            exact ⟨_, by rw [HF.out, HTH.out, HB.out]; rfl, by rw [HR.out]; exact ho8, hB8⟩
          | false =>
            have HR : Hid (prPutR l y = l) := by show _ = _; unfold prPutR; rw [HOK.out, HPL.out, hok2]; rfl
            have HB : Hid (prPutB l y = false) := by show _ = _; unfold prPutB; rw [HOK.out, HPL.out, hok2]; rfl
            have HF : Hid (prPutF l y = false) := by show _ = _; unfold prPutF; rw [HB.out]; rfl
            have ho9 : (w8.alloc (.cells #[] 65)).ownsRow w.heap.size 65 2 (.slice (some ⟨w8.heap.size, 0, none⟩) 0 0) 0 [] := World.ownsRow_lit w8 #[] 0 hz8 (by simp) rfl
            have hB9 : Below w.heap.size w (w8.alloc (.cells #[] 65)) := hB8.alloc hz8 _
            have hr9 := readsR_kept hr hB9
            clear hok2 ho8
            go_wp2_with (at_builtin; refine append_R (c := prC) rfl (.tmp 44) (.tmp 45) 25 rfl w.heap.size 65 i0 _ 2 32 Try.underlying25 hi0 hz0 hz1 hz2 rfl (by decide) _ _ _ rfl ho9 _ rfl l hr9 prC_len prC_one (by unfold maxLen; omega) (by omega) (by simp; omega) ?_)
            intro xa wa howna hgrowa
            have hoa : PrOwns wa w.heap.size xa l := by unfold PrOwns OwnsR; first | simpa using howna | simpa [h00] using howna
            have hBa : Below w.heap.size w wa := hB9.grown hgrowa (by simp; omega) (fun j hj => (ho9.lt j hj).1)
            clear howna hgrowa
            go_wp2_with fail
            go_ret3
            exact ⟨_, by rw [HF.out, HB.out]; rfl, by rw [HR.out]; exact hoa, hBa⟩
end Go.Proofs.Ytdaahcenplepjaa
/- slices.Insert of one row of Pair into a row of one's own. -/
namespace Go.Proofs.Ytdaahcenplepjaa
open Go.RowKit

theorem prSz : ∀ w, (Go.sizeOf 65).run Try.prog w = .ok 2 w := by
  obtain ⟨i0, hi0, hz0, hz1, hz2⟩ := info_parts prInfo
  intro w; simp [Go.sizeOf, typeInfo, hi0, hz1]
end Go.Proofs.Ytdaahcenplepjaa
/- A table with a row: the program's. -/
namespace Go.Proofs.Ytdaahcenplepjaa
open Go.RowKit

theorem box5_allPr {w : World} {B : Nat} {x0 x1 x2 x3 x4 : Value} (h : Box5 w B x0 x1 x2 x3 x4) (u0 u1 u2 u3 u4 : Value) : Box5 (((((w.setCell ⟨B, 0, none⟩ u0).setCell ⟨B, 1, none⟩ u1).setCell ⟨B, 2, none⟩ u2).setCell ⟨B, 3, none⟩ u3).setCell ⟨B, 4, none⟩ u4) B u0 u1 u2 u3 u4 := by
  have hr := box5_set5 h u0 u1 u2 u3 u4
  have g := fun (j : Nat) (v : Value) (hv : [u0, u1, u2, u3, u4][j]? = some v) => hr j v hv
  refine ⟨by have := g 0 u0 rfl; rwa [Nat.zero_add] at this, by have := g 1 u1 rfl; rwa [Nat.zero_add] at this, by have := g 2 u2 rfl; rwa [Nat.zero_add] at this, by have := g 3 u3 rfl; rwa [Nat.zero_add] at this, by have := g 4 u4 rfl; rwa [Nat.zero_add] at this, ?_, ?_, ?_, ?_, ?_⟩
  all_goals simp only [World.frozen?_setCell]
  · exact h.f0
  · exact h.f1
  · exact h.f2
  · exact h.f3
  · exact h.f4
end Go.Proofs.Ytdaahcenplepjaa
/- A table with a row: the program's walk. -/
namespace Go.Proofs.Ytdaahcenplepjaa
open Go.RowKit

end Go.Proofs.Ytdaahcenplepjaa
/- A row put into a table: the program's FieldsPut. -/
namespace Go.Proofs.Ytdaahcenplepjaa
open Go.RowKit

theorem below_drewPPr {B : Nat} {a w : World} (h : Below B a w) (m : Nat) : Below B a (w.drewN m) := ⟨h.os, h.tape, h.output, h.size, h.block⟩
def prNew (l : List (ByteArray × ByteArray)) (y : (ByteArray × ByteArray)) : List (ByteArray × ByteArray) := prIns (prWo l y.1) y
def prPtB (l : List (ByteArray × ByteArray)) (y : (ByteArray × ByteArray)) : Bool := prOkB l && prOkB (prNew l y)
def prPtF (l : List (ByteArray × ByteArray)) (y : (ByteArray × ByteArray)) : Bool := prPtB l y && decide (l.length < (prNew l y).length)
def prPtR (l : List (ByteArray × ByteArray)) (y : (ByteArray × ByteArray)) : List (ByteArray × ByteArray) := if prOkB l = true then (if prOkB (prNew l y) = true then prNew l y else l) else []

end Go.Proofs.Ytdaahcenplepjaa
/- A field put into fields that are ok: the program's list and the model's are one. Plain facts. -/
namespace Go.Proofs.Ytdaahcenplepjaa
open Go.RowKit

theorem prLt_asymm {a b : ByteArray} (h : prLt a b = true) : prLt b a = false := by
  cases hb : prLt b a with
  | false => rfl
  | true =>
    unfold prLt at h hb
    rw [bytesLess_eq] at h hb
    exact absurd (List.lt_trans (by simpa using h) (by simpa using hb)) (List.lt_irrefl _)
theorem prIPos_eq (l : List (ByteArray × ByteArray)) (y : ByteArray × ByteArray) : prIPos l y = prPos l y.1 := rfl
theorem prAt_take {l : List (ByteArray × ByteArray)} {k j : Nat} (hk : k ≤ l.length) (hj : j < k) (r : List (ByteArray × ByteArray)) : prAt (l.take k ++ r) j = prAt l j := by
  rw [prAt_get (by rw [List.length_append, List.length_take]; omega), prAt_get (show j < l.length by omega), List.getElem_append_left (by rw [List.length_take]; omega), List.getElem_take]
theorem new_put {l : List (ByteArray × ByteArray)} (y : ByteArray × ByteArray) (h : prOkB l = true) : prNew l y = prPutL l y := by
  have hle := prPos_le l y.1
  unfold prNew prPutL
  cases ht : prThere l y.1 with
  | false =>
    rw [prWo_no h ht]; unfold prIns; rw [prIPos_eq]; rfl
  | true =>
    rw [prWo_pos h ht, if_pos rfl]
    have ht' := ht
    unfold prThere at ht'
    simp only [Bool.and_eq_true, decide_eq_true_eq] at ht'
    obtain ⟨hlt, hs⟩ := ht'
    have hlow : prILow (l.take (prPos l y.1) ++ l.drop (prPos l y.1 + 1)) y (prPos l y.1) := by
      intro j hj
      rw [prAt_take hle hj]
      exact prPos_low l y.1 j hj
    have hpos : prIPos (l.take (prPos l y.1) ++ l.drop (prPos l y.1 + 1)) y = prPos l y.1 := by
      have hlen : (l.take (prPos l y.1) ++ l.drop (prPos l y.1 + 1)).length = l.length - 1 := by rw [List.length_append, List.length_take, List.length_drop]; omega
      by_cases he : prPos l y.1 + 1 < l.length
      · refine prIPos_at (by rw [hlen]; omega) hlow ?_
        have e : prAt (l.take (prPos l y.1) ++ l.drop (prPos l y.1 + 1)) (prPos l y.1) = prAt l (prPos l y.1 + 1) := by
          rw [prAt_get (by rw [hlen]; omega), prAt_get he, List.getElem_append_right (by rw [List.length_take]; omega), List.getElem_drop]
          congr 1
          rw [List.length_take]; omega
        rw [e]
        have := prAsc_to (prAll_of h) 0 (prPos l y.1) (by omega)
        rw [Nat.add_zero, hs] at this
        exact prLt_asymm this
      · have := prIPos_end (r := l.take (prPos l y.1) ++ l.drop (prPos l y.1 + 1)) (x := y) (by rw [hlen, show l.length - 1 = prPos l y.1 by omega]; exact hlow)
        rw [this, hlen]; omega
    unfold prIns
    rw [hpos, List.take_append_of_le_length (by rw [List.length_take]; omega), List.take_take, Nat.min_self]
    have e2 : (l.take (prPos l y.1) ++ l.drop (prPos l y.1 + 1)).drop (prPos l y.1) = l.drop (prPos l y.1 + 1) := by
      rw [List.drop_append, List.drop_of_length_le (by rw [List.length_take]; omega), List.length_take, Nat.min_eq_left (by omega), Nat.sub_self]; rfl
    rw [e2, List.set_eq_take_append_cons_drop, if_pos hlt]
end Go.Proofs.Ytdaahcenplepjaa
/- Fields that are ok, as a list: fitting, in order; one that is new is put in order; what is there behind a put. Plain facts: no walk. -/
namespace Go.Proofs.Ytdaahcenplepjaa
open Go.RowKit

theorem prLt_total {a b : ByteArray} (hne : a ≠ b) (h : prLt a b = false) : prLt b a = true := by
  unfold prLt at *; rw [bytesLess_eq] at *
  simp only [decide_eq_true_eq, decide_eq_false_iff_not] at *
  rcases List.le_iff_lt_or_eq.1 (List.not_lt.1 h) with h' | h'
  · exact h'
  · exact absurd (by apply ByteArray.ext; apply Array.toList_inj.1; rw [← ByteArray.toList_eq, ← ByteArray.toList_eq]; exact h'.symm) hne
theorem prAhead_trans {x y z : ByteArray × ByteArray} (h1 : prAheadB x y = true) (h2 : prAheadB y z = true) : prAheadB x z = true := prLt_trans h1 h2
theorem prAhead_total {x y : ByteArray × ByteArray} (hne : x.1 ≠ y.1) (h : prAheadB x y = false) : prAheadB y x = true := prLt_total hne h
def prAll (l : List (ByteArray × ByteArray)) : Prop := (∀ x ∈ l, prFitsB x = true) ∧ l.Pairwise (fun x y => prAheadB x y = true) ∧ l.Pairwise (fun x y => x.1 ≠ y.1)
theorem prAllL_of {l : List (ByteArray × ByteArray)} (h : prAllB l = true) : prAll l := by
  have hr : ∀ j, j < l.length → prRowOk l j = true := fun j hj => List.all_eq_true.1 h j (List.mem_range.2 hj)
  have hp : ∀ j, j < l.length → prFitsB (prAt l j) = true ∧ (0 < j → prAheadB (prAt l (j - 1)) (prAt l j) = true) ∧ prPlc l (prAt l j).1 = (j : Int) := fun j hj => by
    have := hr j hj
    unfold prRowOk at this
    simp only [Bool.and_eq_true, Bool.or_eq_true, decide_eq_true_eq] at this
    refine ⟨this.1.1, fun h0 => ?_, this.2⟩
    rcases this.1.2 with h' | h'
    · omega
    · exact h'
  refine ⟨fun x hx => ?_, ?_, ?_⟩
  · obtain ⟨j, hj, rfl⟩ := List.getElem_of_mem hx
    rw [← prAt_get hj]; exact (hp j hj).1
  · rw [List.pairwise_iff_getElem]
    intro i j hi hj hij
    have key : ∀ d i, i + d + 1 < l.length → prAheadB (prAt l i) (prAt l (i + d + 1)) = true := by
      intro d
      induction d with
      | zero => intro i h1; simpa using (hp (i + 1) h1).2.1 (by omega)
      | succ d ih =>
        intro i h1
        exact prAhead_trans (ih i (by omega)) (by have := (hp (i + (d + 1) + 1) h1).2.1 (by omega); rw [Nat.add_sub_cancel, ← Nat.add_assoc] at this; rw [← Nat.add_assoc]; exact this)
    have := key (j - i - 1) i (by omega)
    rw [show i + (j - i - 1) + 1 = j by omega, prAt_get hi, prAt_get hj] at this
    exact this
  · rw [List.pairwise_iff_getElem]
    intro i j hi hj hij he
    have h1 := (hp i hi).2.2
    have h2 := (hp j hj).2.2
    rw [prAt_get hi] at h1
    rw [prAt_get hj, ← he] at h2
    omega
theorem prAll_to {l : List (ByteArray × ByteArray)} (h : prAll l) : prAllB l = true := by
  obtain ⟨h1, h2, h3⟩ := h
  unfold prAllB
  rw [List.all_eq_true]
  intro j hj
  have hj := List.mem_range.1 hj
  rw [List.pairwise_iff_getElem] at h2 h3
  unfold prRowOk
  simp only [Bool.and_eq_true, Bool.or_eq_true, decide_eq_true_eq]
  refine ⟨⟨h1 _ (prAt_mem hj), ?_⟩, (prPlc_hit hj (fun i hi => ?_) rfl).2⟩
  · rcases Nat.eq_zero_or_pos j with e | e
    · exact .inl e
    · right
      have := h2 (j - 1) j (by omega) hj (by omega)
      rw [prAt_get (by omega), prAt_get hj]; exact this
  · rw [prAt_get (by omega), prAt_get hj]; exact h3 i j (by omega) hj hi
theorem prOk_len {l : List (ByteArray × ByteArray)} (h : prOkB l = true) : l.length ≤ 16 := by
  unfold prOkB at h; rw [Bool.and_eq_true] at h; simpa using h.1
theorem prOk_all {l : List (ByteArray × ByteArray)} (h : prOkB l = true) : prAll l := by
  unfold prOkB at h; rw [Bool.and_eq_true] at h; exact prAllL_of h.2
theorem prOk_mk {l : List (ByteArray × ByteArray)} (h : l.length ≤ 16) (ha : prAll l) : prOkB l = true := by
  unfold prOkB; rw [Bool.and_eq_true]; exact ⟨by simpa using h, prAll_to ha⟩
theorem prIPos_low {r : List (ByteArray × ByteArray)} {x y : ByteArray × ByteArray} (hy : y ∈ r.take (prIPos r x)) : prAheadB y x = true := by
  obtain ⟨j, hj, rfl⟩ := List.getElem_of_mem hy
  rw [List.length_take] at hj
  have := List.not_of_lt_findIdx (p := fun y => !prAheadB y x) (xs := r) (i := j) (by unfold prIPos at hj; omega)
  rw [List.getElem_take]; simpa using this
theorem prIPos_high {r : List (ByteArray × ByteArray)} {x y : ByteArray × ByteArray} (ha : r.Pairwise (fun x y => prAheadB x y = true)) (hn : ∀ z ∈ r, z.1 ≠ x.1) (hy : y ∈ r.drop (prIPos r x)) : prAheadB x y = true := by
  obtain ⟨j, hj, rfl⟩ := List.getElem_of_mem hy
  rw [List.length_drop] at hj
  rw [List.getElem_drop]
  have hp : prIPos r x < r.length := by omega
  have h0 : prAheadB (r[prIPos r x]) x = false := by
    have := List.findIdx_getElem (p := fun y => !prAheadB y x) (xs := r) (w := hp)
    have h : (!prAheadB r[prIPos r x] x) = true := this
    simpa using h
  have h1 := prAhead_total (hn _ (List.getElem_mem hp)) h0
  rcases Nat.eq_zero_or_pos j with e | e
  · subst e; simpa using h1
  · rw [List.pairwise_iff_getElem] at ha
    exact prAhead_trans h1 (ha _ _ hp (by omega) (by omega))
theorem prIns_mem {r : List (ByteArray × ByteArray)} {x y : ByteArray × ByteArray} : y ∈ prIns r x ↔ y = x ∨ y ∈ r := by
  unfold prIns
  rw [List.mem_append, List.mem_cons]
  conv => rhs; rhs; rw [← List.take_append_drop (prIPos r x) r, List.mem_append]
  constructor
  · rintro (h | h | h)
    · exact .inr (.inl h)
    · exact .inl h
    · exact .inr (.inr h)
  · rintro (h | h | h)
    · exact .inr (.inl h)
    · exact .inl h
    · exact .inr (.inr h)
theorem prIns_all {r : List (ByteArray × ByteArray)} {x : ByteArray × ByteArray} (h : prAll r) (hx : prFitsB x = true) (hn : ∀ z ∈ r, z.1 ≠ x.1) : prAll (prIns r x) := by
  obtain ⟨h1, h2, h3⟩ := h
  have e := List.take_append_drop (prIPos r x) r
  refine ⟨fun y hy => ?_, ?_, ?_⟩
  · rcases prIns_mem.1 hy with h | h
    · rw [h]; exact hx
    · exact h1 y h
  · have h2' := h2; rw [← e, List.pairwise_append] at h2'
    unfold prIns; rw [List.pairwise_append, List.pairwise_cons]
    refine ⟨h2'.1, ⟨fun y hy => prIPos_high h2 hn hy, h2'.2.1⟩, fun a ha b hb => ?_⟩
    rcases List.mem_cons.1 hb with hb | hb
    · rw [hb]; exact prIPos_low ha
    · exact h2'.2.2 a ha b hb
  · have h3' := h3; rw [← e, List.pairwise_append] at h3'
    unfold prIns; rw [List.pairwise_append, List.pairwise_cons]
    refine ⟨h3'.1, ⟨fun y hy => fun he => hn y (List.mem_of_mem_drop hy) he.symm, h3'.2.1⟩, fun a ha b hb => ?_⟩
    rcases List.mem_cons.1 hb with hb | hb
    · rw [hb]; exact hn a (List.mem_of_mem_take ha)
    · exact h3'.2.2 a ha b hb
theorem prThere_mem {l : List (ByteArray × ByteArray)} {s : ByteArray} (hn : ∀ z ∈ l, z.1 ≠ s) : prThere l s = false := by
  cases h : prThere l s with
  | false => rfl
  | true =>
    unfold prThere at h
    simp only [Bool.and_eq_true, decide_eq_true_eq] at h
    exact absurd h.2 (hn _ (prAt_mem h.1))
/-- one that is new, and fits, where there is room -/
theorem prPut_new {l : List (ByteArray × ByteArray)} {x : ByteArray × ByteArray} (h : prOkB l = true) (hx : prFitsB x = true) (hn : ∀ z ∈ l, z.1 ≠ x.1) (hr : l.length < 16) : prPutR l x = prIns l x ∧ prOkB (prIns l x) = true := by
  have hok : prOkB (prIns l x) = true := prOk_mk (by rw [prIns_len]; omega) (prIns_all (prOk_all h) hx hn)
  have hL : prPutL l x = prIns l x := by
    unfold prPutL; rw [prThere_mem hn]; rfl
  unfold prPutR
  rw [hL, if_pos h, if_pos hok]
  exact ⟨rfl, hok⟩
/-- whatever is put: ok still, one longer at the most, no field that was neither there nor put -/
theorem prPut_any {l : List (ByteArray × ByteArray)} {x : ByteArray × ByteArray} (h : prOkB l = true) : prOkB (prPutR l x) = true ∧ (prPutR l x).length ≤ l.length + 1 ∧ ∀ z ∈ prPutR l x, z = x ∨ z ∈ l := by
  unfold prPutR
  rw [if_pos h]
  split
  · next hok =>
    refine ⟨hok, ?_, fun z hz => ?_⟩
    · unfold prPutL; have := prPos_le l x.1
      split
      · rw [List.length_set]; omega
      · simp; omega
    · unfold prPutL at hz
      split at hz
      · rcases List.mem_or_eq_of_mem_set hz with h' | h'
        · exact .inr h'
        · exact .inl h'
      · rcases List.mem_append.1 hz with h' | h'
        · exact .inr (List.mem_of_mem_take h')
        · rcases List.mem_cons.1 h' with h'' | h''
          · exact .inl h''
          · exact .inr (List.mem_of_mem_drop h'')
  · exact ⟨h, by omega, fun z hz => .inr hz⟩
theorem pr_ptB (l : List (ByteArray × ByteArray)) (y : ByteArray × ByteArray) : prPtB l y = prPutB l y := by
  unfold prPtB prPutB
  cases h : prOkB l with
  | false => rfl
  | true => rw [new_put y h]
theorem pr_ptR (l : List (ByteArray × ByteArray)) (y : ByteArray × ByteArray) : prPtR l y = prPutR l y := by
  unfold prPtR prPutR
  cases h : prOkB l with
  | false => rfl
  | true => rw [new_put y h]
theorem pr_ptF (l : List (ByteArray × ByteArray)) (y : ByteArray × ByteArray) : prPtF l y = prPutF l y := by
  unfold prPtF prPutF
  rw [pr_ptB]
  cases h : prOkB l with
  | false => unfold prPutB; rw [h]; rfl
  | true =>
    have e : decide (l.length < (prNew l y).length) = !prThere l y.1 := by
      rw [new_put y h]; unfold prPutL
      have := prPos_le l y.1
      cases prThere l y.1 <;> simp; omega
    rw [e]
theorem pr_put_len {l : List (ByteArray × ByteArray)} {y : ByteArray × ByteArray} (h : l.length ≤ 17) : (prPutR l y).length ≤ 18 := by
  unfold prPutR; split
  · split
    · unfold prPutL; have := prPos_le l y.1
      split
      · rw [List.length_set]; omega
      · simp; omega
    · omega
  · simp
theorem pr_drop_len (l : List (ByteArray × ByteArray)) (s : ByteArray) (h : l.length ≤ 18) : (prDropR l s).length ≤ 18 := by
  unfold prDropR; split
  · have := prWo_len l s; omega
  · simp
end Go.Proofs.Ytdaahcenplepjaa
