/- What is there behind a field put, and behind one taken away. Plain facts. -/
import Derived.Test.YtfnbjjcelncliaaPrS
namespace Go.Proofs.Ytfnbjjcelncliaa
open Go.RowKit

theorem pr_wo_names {l : List (ByteArray × ByteArray)} {s : ByteArray} (h : prOkB l = true) : ∀ z ∈ prWo l s, z.1 ≠ s := by
  intro z hz he
  have hd := (prOk_all h).2.2
  rw [List.pairwise_iff_getElem] at hd
  unfold prWo at hz
  obtain ⟨j, hj, hne, rfl⟩ := List.mem_eraseIdx_iff_getElem.1 hz
  have hlt : prIdx l s < l.length := by
    unfold prIdx; rw [List.findIdx_lt_length]; exact ⟨_, List.getElem_mem hj, by simpa using he⟩
  have hi : (l[prIdx l s]'hlt).1 = s := by
    have := List.findIdx_getElem (p := fun y : ByteArray × ByteArray => decide (y.1 = s)) (xs := l) (w := hlt)
    have h' : decide ((l[prIdx l s]'hlt).1 = s) = true := this
    simpa using h'
  rcases Nat.lt_or_gt_of_ne hne with h1 | h1
  · exact hd _ _ hj hlt h1 (he.trans hi.symm)
  · exact hd _ _ hlt hj h1 (hi.trans he.symm)
theorem pr_wo_ok {l : List (ByteArray × ByteArray)} {s : ByteArray} (h : prOkB l = true) : prOkB (prWo l s) = true := by
  have ha := prOk_all h
  refine prOk_mk ?_ ⟨?_, ?_, ?_⟩
  · have := prOk_len h; have := prWo_len l s; omega
  · intro x hx; exact ha.1 x (List.mem_of_mem_eraseIdx hx)
  · exact ha.2.1.sublist (List.eraseIdx_sublist l _)
  · exact ha.2.2.sublist (List.eraseIdx_sublist l _)
theorem pr_find_none {l : List (ByteArray × ByteArray)} {s : ByteArray} (hn : ∀ z ∈ l, z.1 ≠ s) : prFindI l s = -1 := by
  unfold prFindI; split
  · exact prPlc_none (fun j hj => hn _ (prAt_mem hj))
  · rfl
/-- behind a put that was well -/
theorem pr_put_facts {l : List (ByteArray × ByteArray)} {y : ByteArray × ByteArray} (hB : prPutB l y = true) :
    prOkB l = true ∧ prOkB (prPutR l y) = true ∧ prGetB (prPutR l y) y.1 = true ∧ prGetS (prPutR l y) y.1 = y.2 ∧ prPutF l y = (!prGetB l y.1) ∧ prDropR (prPutR l y) y.1 = prDropR l y.1 ∧ (prPutR l y).length ≤ 16 := by
  have hB' := hB
  unfold prPutB at hB'
  rw [Bool.and_eq_true] at hB'
  obtain ⟨h1, h2⟩ := hB'
  have hR : prPutR l y = prPutL l y := by unfold prPutR; rw [if_pos h1, if_pos h2]
  rw [hR]
  have hN := (new_put y h1).symm
  have hnm := pr_wo_names (s := y.1) h1
  have hpl := prIPos_le (prWo l y.1) y
  have hL : prPutL l y = (prWo l y.1).take (prIPos (prWo l y.1) y) ++ y :: (prWo l y.1).drop (prIPos (prWo l y.1) y) := hN
  have hlen : (prPutL l y).length = (prWo l y.1).length + 1 := by rw [hN]; exact prIns_len _ _
  have hA : ∀ j, j < prIPos (prWo l y.1) y → (prAt (prPutL l y) j).1 ≠ y.1 := by
    intro j hj
    have hjl : j < (prWo l y.1).length := by omega
    rw [prAt_get (by omega)]
    have : (prPutL l y)[j]'(by omega) = (prWo l y.1)[j] := by
      have e := List.getElem_of_eq hL (i := j) (by omega)
      rw [e, List.getElem_append_left (by rw [List.length_take]; omega), List.getElem_take]
    rw [this]
    exact hnm _ (List.getElem_mem hjl)
  have hy : prAt (prPutL l y) (prIPos (prWo l y.1) y) = y := by
    rw [prAt_get (by omega)]
    have e := List.getElem_of_eq hL (i := prIPos (prWo l y.1) y) (by omega)
    rw [e, List.getElem_append_right (by rw [List.length_take]; omega)]
    simp [List.length_take, Nat.min_eq_left hpl]
  obtain ⟨hi, hp⟩ := prPlc_hit (l := prPutL l y) (s := y.1) (k := prIPos (prWo l y.1) y) (by omega) hA (by rw [hy])
  have hF : prFindI (prPutL l y) y.1 = (prIPos (prWo l y.1) y : Int) := by unfold prFindI; rw [if_pos h2]; exact hp
  have hG : prGetB (prPutL l y) y.1 = true := by unfold prGetB; rw [hF]; simp
  refine ⟨h1, h2, hG, ?_, ?_, ?_, prOk_len h2⟩
  · unfold prGetS; rw [if_pos hG, hF, Int.toNat_natCast, hy]
  · unfold prPutF; rw [hB, Bool.true_and]
    unfold prGetB prFindI; rw [if_pos h1]
    have hq := prPlc_pos (s := y.1) h1
    cases ht : prThere l y.1 with
    | true => rw [hq.1 ht]; simp
    | false => rw [hq.2 ht]; simp
  · unfold prDropR; rw [if_pos h2, if_pos h1]
    have e : prWo (prPutL l y) y.1 = (prPutL l y).eraseIdx (prIPos (prWo l y.1) y) := by
      conv => lhs; unfold prWo
      rw [hi]
    rw [e, hL, List.eraseIdx_append_of_length_le (by rw [List.length_take]; omega), List.length_take, Nat.min_eq_left hpl, Nat.sub_self, List.eraseIdx_cons_zero, List.take_append_drop]
/-- one that is there, taken away and put again -/
theorem pr_again {l : List (ByteArray × ByteArray)} {s : ByteArray} (h : prOkB l = true) (hd : prDropB l s = true) :
    prGetB (prDropR l s) s = false ∧ prGetB l s = true ∧ prPutF (prDropR l s) (s, prGetS l s) = true ∧ prPutB (prDropR l s) (s, prGetS l s) = true ∧ prPutR (prDropR l s) (s, prGetS l s) = l := by
  have hG : prGetB l s = true := hd
  have hD : prDropR l s = prWo l s := by unfold prDropR; rw [if_pos h]
  have hok := pr_wo_ok (s := s) h
  have hnm := pr_wo_names (s := s) h
  have ht : prThere l s = true := by
    cases hq : prThere l s with
    | true => rfl
    | false =>
      have := (prPlc_pos (s := s) h).2 hq
      unfold prGetB prFindI at hG; rw [if_pos h, this] at hG; simp at hG
  have hF : prFindI l s = (prPos l s : Int) := by unfold prFindI; rw [if_pos h]; exact (prPlc_pos h).1 ht
  have ht' := ht
  unfold prThere at ht'
  simp only [Bool.and_eq_true, decide_eq_true_eq] at ht'
  obtain ⟨hlt, hs⟩ := ht'
  have hS : (s, prGetS l s) = prAt l (prPos l s) := by
    unfold prGetS; rw [if_pos hG, hF, Int.toNat_natCast]
    exact Prod.ext hs.symm rfl
  have hnt : prThere (prWo l s) s = false := prThere_mem hnm
  have hW := prWo_pos h ht
  -- the place where it comes again
  have hnew : prNew l (s, prGetS l s) = prPutL l (s, prGetS l s) := new_put _ h
  have hset : prPutL l (s, prGetS l s) = l := by
    show (if prThere l s = true then l.set (prPos l s) (s, prGetS l s) else l.take (prPos l s) ++ (s, prGetS l s) :: l.drop (prPos l s)) = l
    rw [if_pos ht, hS, prAt_get hlt, List.set_getElem_self]
  have hput : prPutL (prWo l s) (s, prGetS l s) = l := by
    have e : prPutL (prWo l s) (s, prGetS l s) = prNew l (s, prGetS l s) := by
      show (if prThere (prWo l s) s = true then (prWo l s).set (prPos (prWo l s) s) (s, prGetS l s) else (prWo l s).take (prPos (prWo l s) s) ++ (s, prGetS l s) :: (prWo l s).drop (prPos (prWo l s) s)) = prIns (prWo l s) (s, prGetS l s)
      rw [hnt]; rfl
    rw [e, hnew, hset]
  have hB : prPutB (prWo l s) (s, prGetS l s) = true := by unfold prPutB; rw [hok, hput, h]; rfl
  rw [hD]
  refine ⟨?_, hG, ?_, hB, ?_⟩
  · unfold prGetB; rw [pr_find_none hnm]; rfl
  · unfold prPutF; rw [hB, hnt]; rfl
  · unfold prPutR; rw [hok, hput, h]; rfl
theorem pr_miss {l : List (ByteArray × ByteArray)} {s : ByteArray} (h : prOkB l = true) (hd : prDropB l s = false) : prDropR l s = l := by
  unfold prDropR; rw [if_pos h]
  apply prWo_miss
  unfold prDropB prFindI at hd; rw [if_pos h] at hd
  simpa using hd
end Go.Proofs.Ytfnbjjcelncliaa
