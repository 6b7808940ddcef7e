/- ScoresDrop: the model's. -/
import Derived.Test.YtdaahcenplepjaaScDr
import Derived.Test.YtdaahcenplepjaaScN
namespace Go.Proofs.Ytdaahcenplepjaa
open Go.RowKit

def scNe (s : ByteArray) (x : ByteArray × Int) : Bool := !(x.1.toList == s.toList)
def scFl (l : List (ByteArray × Int)) (s : ByteArray) : List (ByteArray × Int) := l.filter (scNe s)
theorem scNe_iff {s : ByteArray} {x : ByteArray × Int} : scNe s x = !decide (x.1 = s) := by
  unfold scNe
  by_cases h : x.1 = s
  · simp [h]
  · rw [decide_eq_false h]
    cases hh : (x.1.toList == s.toList) with
    | false => rfl
    | true => exact absurd (sc_sEq hh) h
theorem scFl_hit {l : List (ByteArray × Int)} {s : ByteArray} {k : Nat} (hk : k < l.length) (h : scNe s (scAt l k) = true) : scFl (l.take (k + 1)) s = scFl (l.take k) s ++ [scAt l k] := by
  rw [List.take_succ_eq_append_getElem hk, ← scAt_get hk]; unfold scFl; simp [h]
theorem scFl_miss {l : List (ByteArray × Int)} {s : ByteArray} {k : Nat} (hk : k < l.length) (h : scNe s (scAt l k) = false) : scFl (l.take (k + 1)) s = scFl (l.take k) s := by
  rw [List.take_succ_eq_append_getElem hk, ← scAt_get hk]; unfold scFl; simp [h]
theorem scFl_len (l : List (ByteArray × Int)) (s : ByteArray) : (scFl l s).length ≤ l.length := List.length_filter_le _ _
theorem scFl_erase (s : ByteArray) : ∀ (l : List (ByteArray × Int)), l.Pairwise (fun x y => x.1 ≠ y.1) → scFl l s = l.eraseIdx (scIdx l s)
  | [], _ => rfl
  | x :: l, h => by
    rw [List.pairwise_cons] at h
    unfold scFl scIdx
    rw [List.findIdx_cons]
    by_cases e : x.1 = s
    · rw [decide_eq_true e, List.filter_cons, scNe_iff, decide_eq_true e]
      simp only [Bool.not_true, Bool.false_eq_true, if_false, cond_true, List.eraseIdx_cons_zero]
      rw [List.filter_eq_self]
      intro y hy
      rw [scNe_iff, decide_eq_false (fun e2 => h.1 y hy (e.trans e2.symm))]; rfl
    · rw [decide_eq_false e, List.filter_cons, scNe_iff, decide_eq_false e]
      simp only [Bool.not_false, if_true, cond_false, List.eraseIdx_cons_succ]
      have := scFl_erase s l h.2
      unfold scFl scIdx at this
      rw [this]
theorem scOk_pair {l : List (ByteArray × Int)} (h : scOkB l = true) : l.Pairwise (fun x y => x.1 ≠ y.1) := by
  unfold scOkB scAllB at h
  rw [Bool.and_eq_true, List.all_eq_true] at h
  rw [List.pairwise_iff_getElem]
  intro i j hi hj hij e
  have := h.2 j (List.mem_range.2 hj)
  unfold scRowOk at this
  simp only [Bool.and_eq_true, decide_eq_true_eq] at this
  have h2 := this.2
  have hlt : scIdx l (scAt l j).1 = j := by
    unfold scPlc at h2
    split at h2 <;> omega
  unfold scIdx at hlt
  have hno := List.not_of_lt_findIdx (p := fun y : ByteArray × Int => decide (y.1 = (scAt l j).1)) (xs := l) (i := i) (by rw [hlt]; exact hij)
  simp only [decide_eq_false_iff_not] at hno
  exact hno (e.trans (congrArg Prod.fst (scAt_get hj)).symm)
theorem scWo_lt {l : List (ByteArray × Int)} {s : ByteArray} : decide ((scWo l s).length < l.length) = decide (0 ≤ scPlc l s) := by
  unfold scWo
  rw [List.length_eraseIdx]
  unfold scPlc
  split <;> simp <;> omega

set_option maxHeartbeats 8000000 in
theorem l3Without_any (v : Value) (l : List (ByteArray × Int)) (s : ByteArray) (w : World) (hr : ScReads w v l) (hlen : l.length ≤ 1048576) :
    Calls Try.prog 37 #[v, .string s] w fun e w' => ∃ x, e = .returned x ∧ x ≠ .slice none 0 0 ∧ ScOwns w' w.heap.size x (scFl l s) ∧ Below w.heap.size w w' := by
  obtain ⟨i0, hi0, hz0, hz1, hz2⟩ := info_parts scInfo
  obtain ⟨ao, cap, rfl⟩ := readsR_shape hr
  have ho0 : ScOwns (w.alloc (.cells #[] 62)) w.heap.size (.slice (some ⟨w.heap.size, 0, none⟩) 0 0) [] := World.ownsRow_lit w #[] 0 (Nat.le_refl _) (by simp) rfl
  have hB0 : Below w.heap.size w (w.alloc (.cells #[] 62)) := (Below.refl _ _).alloc (Nat.le_refl _) _
  go_enter Try.func37, Try.ntmps37
  go_wp2_with fail
  go_loopw [5, 6] (fun x i wr => ∃ k : Nat, k ≤ l.length ∧ i = .int .i64 (k : Int) ∧ x ≠ .slice none 0 0 ∧ ScOwns wr w.heap.size x (scFl (l.take k) s) ∧ Below w.heap.size w wr) (fun _ i _ => l.length - (intOf i).toNat)
  case atStart => exact ⟨0, Nat.zero_le _, rfl, by simp, ho0, hB0⟩
  case round =>
    obtain ⟨k, hk, rfl, hne, ho1, hB1⟩ := hrel
    have HNE : Hid _ := hne
    clear ho0 hB0 hne
    by_cases hlt : k < l.length
    · have hk1 : (k : Int) < (l.length : Int) := by omega
      obtain ⟨b, off, rfl, hb, _, _, hc⟩ := sc_some hr (by omega)
      have hcl := sc_cell_kept (sc_cells hc hlt) hB1 hb
      have hc0 := hcl.1
      have hc1 := hcl.2
      have hsz := hB1.size
      have hob := scFl_len (l.take k) s
      have htk : (l.take k).length = k := by simp; omega
      clear hcl hc
      cases hI : ((scAt l k).1.toList == s.toList) with
      | false =>
        have HS : Hid (scFl (l.take (k + 1)) s = scFl (l.take k) s ++ [scAt l k]) := scFl_hit hlt (by unfold scNe; rw [hI]; rfl)
        generalize scFl (l.take k) s = O at *
        have hol := ho1
        unfold ScOwns OwnsR at hol
        have hB3a := hB1.alloc hsz (.cells #[.string (scAt l k).1, .int .i64 (scAt l k).2] 62)
        go_wp2_with (at_builtin; refine wpList_append_own _ rfl (.tmp 21) (.tmp 26) 24 rfl w.heap.size 62 i0 _ 2 24 Try.underlying24 hi0 hz0 hz1 hz2 rfl (by decide) _ _ _ rfl (hol.alloc _) ⟨wr.heap.size, 0, none⟩ 1 1 (scC (scAt l k)) rfl rfl (news_new _ _ _) (scC_one _) (by unfold maxLen; omega) (by omega) (by simp; omega) ?_)
        intro x5 w5 hown5 hgrow5 hnil5
        have HN5 : Hid (x5 ≠ .slice none 0 0) := fun h => hnil5 h
        have ho5 : ScOwns w5 w.heap.size x5 (O ++ [scAt l k]) := by unfold ScOwns OwnsR; rw [List.length_append, List.flatMap_append]; simpa using hown5
        have hB5 : Below w.heap.size w w5 := hB3a.grown hgrow5 (by simp; omega) (fun j hj => (hol.lt j hj).1)
        clear hown5 hgrow5 hnil5 hol hB3a ho1 hI
        go_wp2_with fail
        go_roundw
        case rel => exact ⟨k + 1, hlt, by go_num, HN5.out, by rw [HS.out]; exact ho5, hB5⟩
        case measure => simp [intOf]; omega
      | true =>
        have HS : Hid (scFl (l.take (k + 1)) s = scFl (l.take k) s) := scFl_miss hlt (by unfold scNe; rw [hI]; rfl)
        go_wp2_with fail
        go_roundw
        case rel => exact ⟨k + 1, hlt, by go_num, HNE.out, by rw [HS.out]; exact ho1, hB1⟩
        case measure => simp [intOf]; omega
    · obtain rfl : k = l.length := by omega
      rw [List.take_length] at ho1
      go_wp2_with fail
      go_ret
      exact ⟨_, rfl, HNE.out, ho1, hB1⟩

end Go.Proofs.Ytdaahcenplepjaa
