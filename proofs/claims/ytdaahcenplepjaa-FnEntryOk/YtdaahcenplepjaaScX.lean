/- Several texts in one: ScCl ScDe ScWo ScH ScDr ScN ScP ScPo ScQ ScR. -/
import Derived.Test.YtdaahcenplepjaaScB
import Derived.Maps.AppendAt
import Derived.Laws.AppendOwnNone
import Derived.Lib.SliceRun
import Derived.Test.YtdaahcenplepjaaDl
import Derived.Test.YtdaahcenplepjaaTk
import Derived.Test.YtdaahcenplepjaaScF
import Derived.Test.YtdaahcenplepjaaBx
import Derived.Test.YtdaahcenplepjaaScG
import Derived.Test.YtdaahcenplepjaaScC
import Derived.Test.YtdaahcenplepjaaAq
/- slices.Clone of rows of Score. -/
namespace Go.Proofs.Ytdaahcenplepjaa
open Go.RowKit

end Go.Proofs.Ytdaahcenplepjaa
/- slices.Delete of one row of Score, from a row of one's own. -/
namespace Go.Proofs.Ytdaahcenplepjaa
open Go.RowKit

theorem scZero : ∀ w, (zeroValue 62).run Try.prog w = .ok (.agg #[.string ByteArray.empty, .int .i64 0]) w := Try.zeroValue62

end Go.Proofs.Ytdaahcenplepjaa
/- A table without a row; the program's drop. -/
namespace Go.Proofs.Ytdaahcenplepjaa
open Go.RowKit

def scWo (l : List (ByteArray × Int)) (s : ByteArray) : List (ByteArray × Int) := l.eraseIdx (scIdx l s)
theorem scWo_miss {l : List (ByteArray × Int)} {s : ByteArray} (h : scPlc l s < 0) : scWo l s = l := by
  unfold scWo
  rw [List.eraseIdx_of_length_le]
  unfold scPlc at h
  split at h
  · omega
  · next h' => omega
theorem scPlc_idx {l : List (ByteArray × Int)} {s : ByteArray} (h : 0 ≤ scPlc l s) : scPlc l s = (scIdx l s : Int) ∧ scIdx l s < l.length := by
  unfold scPlc at h ⊢
  split at h
  · next h' => rw [if_pos h']; exact ⟨rfl, h'⟩
  · omega
theorem scWo_len (l : List (ByteArray × Int)) (s : ByteArray) : (scWo l s).length ≤ l.length := by unfold scWo; exact List.length_eraseIdx_le _ _

end Go.Proofs.Ytdaahcenplepjaa
/- The place of a name in a table that is ok: the program's and the model's. -/
namespace Go.Proofs.Ytdaahcenplepjaa
open Go.RowKit

def scFindI (l : List (ByteArray × Int)) (s : ByteArray) : Int := if scOkB l = true then scPlc l s else -1
theorem scPlc_bd (l : List (ByteArray × Int)) (s : ByteArray) : -1 ≤ scPlc l s ∧ scPlc l s < l.length ∨ l.length = 0 ∧ scPlc l s = -1 := by
  unfold scPlc; split
  · left; omega
  · rcases Nat.eq_zero_or_pos l.length with h | h
    · exact .inr ⟨h, rfl⟩
    · left; omega

end Go.Proofs.Ytdaahcenplepjaa
/- A row taken out of a table that is ok: the program's ScoresDrop. -/
namespace Go.Proofs.Ytdaahcenplepjaa
open Go.RowKit

def scDropR (l : List (ByteArray × Int)) (s : ByteArray) : List (ByteArray × Int) := if scOkB l = true then scWo l s else []
def scDropB (l : List (ByteArray × Int)) (s : ByteArray) : Bool := decide (0 ≤ scFindI l s)

end Go.Proofs.Ytdaahcenplepjaa
/- ScoresBy: the program's and the model's. -/
namespace Go.Proofs.Ytdaahcenplepjaa
open Go.RowKit

theorem news_new (w : World) (cs : Array Value) (t : TypeId) : ∀ j u, cs.toList[j]? = some u → (w.alloc (.cells cs t)).cell? ((⟨w.heap.size, 0, none⟩ : Addr).add j) = some u := by
  intro j u hu
  rw [Addr.add_mid, Nat.zero_add, cell_of_row _ _ _ _ _ _ (heap_alloc_new w _)]
  simpa using hu
def scIn (lo hi : Int) (x : ByteArray × Int) : Bool := decide (lo ≤ x.2) && decide (x.2 ≤ hi)
def scBy (l : List (ByteArray × Int)) (lo hi : Int) : List (ByteArray × Int) := l.filter (scIn lo hi)
def scByR (l : List (ByteArray × Int)) (lo hi : Int) : List (ByteArray × Int) := if scOkB l = true then scBy l lo hi else []
theorem scBy_hit {l : List (ByteArray × Int)} {lo hi : Int} {k : Nat} (hk : k < l.length) (h : scIn lo hi (scAt l k) = true) : scBy (l.take (k + 1)) lo hi = scBy (l.take k) lo hi ++ [scAt l k] := by
  rw [List.take_succ_eq_append_getElem hk, ← scAt_get hk]; unfold scBy; simp [h]
theorem scBy_miss {l : List (ByteArray × Int)} {lo hi : Int} {k : Nat} (hk : k < l.length) (h : scIn lo hi (scAt l k) = false) : scBy (l.take (k + 1)) lo hi = scBy (l.take k) lo hi := by
  rw [List.take_succ_eq_append_getElem hk, ← scAt_get hk]; unfold scBy; simp [h]
theorem scBy_len (l : List (ByteArray × Int)) (lo hi : Int) : (scBy l lo hi).length ≤ l.length := List.length_filter_le _ _

end Go.Proofs.Ytdaahcenplepjaa
/- ScoresDrop: the model's. -/
namespace Go.Proofs.Ytdaahcenplepjaa
open Go.RowKit

def scNe (s : ByteArray) (x : ByteArray × Int) : Bool := !(x.1.toList == s.toList)
def scFl (l : List (ByteArray × Int)) (s : ByteArray) : List (ByteArray × Int) := l.filter (scNe s)
theorem scNe_iff {s : ByteArray} {x : ByteArray × Int} : scNe s x = !decide (x.1 = s) := by
  unfold scNe
  by_cases h : x.1 = s
  · simp [h]
  · rw [decide_eq_false h]
    cases hh : (x.1.toList == s.toList) with
    | false => rfl
    | true => exact absurd (sc_sEq hh) h
theorem scFl_hit {l : List (ByteArray × Int)} {s : ByteArray} {k : Nat} (hk : k < l.length) (h : scNe s (scAt l k) = true) : scFl (l.take (k + 1)) s = scFl (l.take k) s ++ [scAt l k] := by
  rw [List.take_succ_eq_append_getElem hk, ← scAt_get hk]; unfold scFl; simp [h]
theorem scFl_miss {l : List (ByteArray × Int)} {s : ByteArray} {k : Nat} (hk : k < l.length) (h : scNe s (scAt l k) = false) : scFl (l.take (k + 1)) s = scFl (l.take k) s := by
  rw [List.take_succ_eq_append_getElem hk, ← scAt_get hk]; unfold scFl; simp [h]
theorem scFl_len (l : List (ByteArray × Int)) (s : ByteArray) : (scFl l s).length ≤ l.length := List.length_filter_le _ _
theorem scFl_erase (s : ByteArray) : ∀ (l : List (ByteArray × Int)), l.Pairwise (fun x y => x.1 ≠ y.1) → scFl l s = l.eraseIdx (scIdx l s)
  | [], _ => rfl
  | x :: l, h => by
    rw [List.pairwise_cons] at h
    unfold scFl scIdx
    rw [List.findIdx_cons]
    by_cases e : x.1 = s
    · rw [decide_eq_true e, List.filter_cons, scNe_iff, decide_eq_true e]
      simp only [Bool.not_true, Bool.false_eq_true, if_false, cond_true, List.eraseIdx_cons_zero]
      rw [List.filter_eq_self]
      intro y hy
      rw [scNe_iff, decide_eq_false (fun e2 => h.1 y hy (e.trans e2.symm))]; rfl
    · rw [decide_eq_false e, List.filter_cons, scNe_iff, decide_eq_false e]
      simp only [Bool.not_false, if_true, cond_false, List.eraseIdx_cons_succ]
      have := scFl_erase s l h.2
      unfold scFl scIdx at this
      rw [this]
theorem scOk_pair {l : List (ByteArray × Int)} (h : scOkB l = true) : l.Pairwise (fun x y => x.1 ≠ y.1) := by
  unfold scOkB scAllB at h
  rw [Bool.and_eq_true, List.all_eq_true] at h
  rw [List.pairwise_iff_getElem]
  intro i j hi hj hij e
  have := h.2 j (List.mem_range.2 hj)
  unfold scRowOk at this
  simp only [Bool.and_eq_true, decide_eq_true_eq] at this
  have h2 := this.2
  have hlt : scIdx l (scAt l j).1 = j := by
    unfold scPlc at h2
    split at h2 <;> omega
  unfold scIdx at hlt
  have hno := List.not_of_lt_findIdx (p := fun y : ByteArray × Int => decide (y.1 = (scAt l j).1)) (xs := l) (i := i) (by rw [hlt]; exact hij)
  simp only [decide_eq_false_iff_not] at hno
  exact hno (e.trans (congrArg Prod.fst (scAt_get hj)).symm)
theorem scWo_lt {l : List (ByteArray × Int)} {s : ByteArray} : decide ((scWo l s).length < l.length) = decide (0 ≤ scPlc l s) := by
  unfold scWo
  rw [List.length_eraseIdx]
  unfold scPlc
  split <;> simp <;> omega

set_option maxHeartbeats 8000000 in
theorem l3Without_any (v : Value) (l : List (ByteArray × Int)) (s : ByteArray) (w : World) (hr : ScReads w v l) (hlen : l.length ≤ 1048576) :
    Calls Try.prog 37 #[v, .string s] w fun e w' => ∃ x, e = .returned x ∧ x ≠ .slice none 0 0 ∧ ScOwns w' w.heap.size x (scFl l s) ∧ Below w.heap.size w w' := by
  obtain ⟨i0, hi0, hz0, hz1, hz2⟩ := info_parts scInfo
  obtain ⟨ao, cap, rfl⟩ := readsR_shape hr
  have ho0 : ScOwns (w.alloc (.cells #[] 62)) w.heap.size (.slice (some ⟨w.heap.size, 0, none⟩) 0 0) [] := World.ownsRow_lit w #[] 0 (Nat.le_refl _) (by simp) rfl
  have hB0 : Below w.heap.size w (w.alloc (.cells #[] 62)) := (Below.refl _ _).alloc (Nat.le_refl _) _
  go_enter Try.func37, Try.ntmps37
  go_wp2_with fail
  go_loopw [5, 6] (fun x i wr => ∃ k : Nat, k ≤ l.length ∧ i = .int .i64 (k : Int) ∧ x ≠ .slice none 0 0 ∧ ScOwns wr w.heap.size x (scFl (l.take k) s) ∧ Below w.heap.size w wr) (fun _ i _ => l.length - (intOf i).toNat)
  case atStart => exact ⟨0, Nat.zero_le _, rfl, by simp, ho0, hB0⟩
  case round =>
    obtain ⟨k, hk, rfl, hne, ho1, hB1⟩ := hrel
    have HNE : Hid _ := hne
    clear ho0 hB0 hne
    by_cases hlt : k < l.length
    · have hk1 : (k : Int) < (l.length : Int) := by omega
      obtain ⟨b, off, rfl, hb, _, _, hc⟩ := sc_some hr (by omega)
      have hcl := sc_cell_kept (sc_cells hc hlt) hB1 hb
      have hc0 := hcl.1
      have hc1 := hcl.2
      have hsz := hB1.size
      have hob := scFl_len (l.take k) s
      have htk : (l.take k).length = k := by simp; omega
      clear hcl hc
      cases hI : ((scAt l k).1.toList == s.toList) with
      | false =>
        have HS : Hid (scFl (l.take (k + 1)) s = scFl (l.take k) s ++ [scAt l k]) := scFl_hit hlt (by unfold scNe; rw [hI]; rfl)
        generalize scFl (l.take k) s = O at *
        have hol := ho1
        unfold ScOwns OwnsR at hol
        have hB3a := hB1.alloc hsz (.cells #[.string (scAt l k).1, .int .i64 (scAt l k).2] 62)
        go_wp2_with (at_builtin; refine wpList_append_own _ rfl (.tmp 21) (.tmp 26) 24 rfl w.heap.size 62 i0 _ 2 24 Try.underlying24 hi0 hz0 hz1 hz2 rfl (by decide) _ _ _ rfl (hol.alloc _) ⟨wr.heap.size, 0, none⟩ 1 1 (scC (scAt l k)) rfl rfl (news_new _ _ _) (scC_one _) (by unfold maxLen; omega) (by omega) (by simp; omega) ?_)
        intro x5 w5 hown5 hgrow5 hnil5
        have HN5 : Hid (x5 ≠ .slice none 0 0) := fun h => hnil5 h
        have ho5 : ScOwns w5 w.heap.size x5 (O ++ [scAt l k]) := by unfold ScOwns OwnsR; rw [List.length_append, List.flatMap_append]; simpa using hown5
        have hB5 : Below w.heap.size w w5 := hB3a.grown hgrow5 (by simp; omega) (fun j hj => (hol.lt j hj).1)
        clear hown5 hgrow5 hnil5 hol hB3a ho1 hI
        go_wp2_with fail
        go_roundw
        case rel => exact ⟨k + 1, hlt, by go_num, HN5.out, by rw [HS.out]; exact ho5, hB5⟩
        case measure => simp [intOf]; omega
      | true =>
        have HS : Hid (scFl (l.take (k + 1)) s = scFl (l.take k) s) := scFl_miss hlt (by unfold scNe; rw [hI]; rfl)
        go_wp2_with fail
        go_roundw
        case rel => exact ⟨k + 1, hlt, by go_num, HNE.out, by rw [HS.out]; exact ho1, hB1⟩
        case measure => simp [intOf]; omega
    · obtain rfl : k = l.length := by omega
      rw [List.take_length] at ho1
      go_wp2_with fail
      go_ret
      exact ⟨_, rfl, HNE.out, ho1, hB1⟩

end Go.Proofs.Ytdaahcenplepjaa
/- The place where a row of Score comes; rows with one more. Plain facts. -/
namespace Go.Proofs.Ytdaahcenplepjaa
open Go.RowKit

def scIPos (r : List (ByteArray × Int)) (x : (ByteArray × Int)) : Nat := r.findIdx (fun y => !scAheadB y x)
def scILow (r : List (ByteArray × Int)) (x : (ByteArray × Int)) (k : Nat) : Prop := ∀ j, j < k → scAheadB (scAt r j) x = true
theorem scIPos_le (r : List (ByteArray × Int)) (x : (ByteArray × Int)) : scIPos r x ≤ r.length := List.findIdx_le_length
theorem scIPos_at {r : List (ByteArray × Int)} {x : (ByteArray × Int)} {k : Nat} (hk : k < r.length) (hl : scILow r x k) (h : scAheadB (scAt r k) x = false) : scIPos r x = k := by
  unfold scIPos
  rw [List.findIdx_eq hk]
  refine ⟨by rw [← scAt_get hk, h]; rfl, fun j hj => ?_⟩
  have := hl j hj
  rw [scAt_get (by omega)] at this
  rw [this]; rfl
theorem scIPos_end {r : List (ByteArray × Int)} {x : (ByteArray × Int)} (hl : scILow r x r.length) : scIPos r x = r.length := by
  unfold scIPos
  rw [List.findIdx_eq_length]
  intro y hy
  obtain ⟨j, hj, rfl⟩ := List.getElem_of_mem hy
  have := hl j hj
  rw [scAt_get hj] at this
  rw [this]; rfl
theorem scILow_step {r : List (ByteArray × Int)} {x : (ByteArray × Int)} {k : Nat} (hn : scILow r x k) (h : scAheadB (scAt r k) x = true) : scILow r x (k + 1) := by
  intro j hj
  by_cases e : j = k
  · rw [e]; exact h
  · exact hn j (by omega)
def scIns (r : List (ByteArray × Int)) (x : (ByteArray × Int)) : List (ByteArray × Int) := r.take (scIPos r x) ++ x :: r.drop (scIPos r x)
theorem scIns_len (r : List (ByteArray × Int)) (x : (ByteArray × Int)) : (scIns r x).length = r.length + 1 := by
  unfold scIns
  have := scIPos_le r x
  simp; omega
end Go.Proofs.Ytdaahcenplepjaa
/- ScoresPut: the model's. -/
namespace Go.Proofs.Ytdaahcenplepjaa
open Go.RowKit

def scPutL (l : List (ByteArray × Int)) (x : ByteArray × Int) : List (ByteArray × Int) := scIns (scFl l x.1) x
def scPutB (l : List (ByteArray × Int)) (x : ByteArray × Int) : Bool := scOkB l && scOkB (scPutL l x)
def scPutF (l : List (ByteArray × Int)) (x : ByteArray × Int) : Bool := scPutB l x && (((scFl l x.1).length : Int) == (l.length : Int))
def scPutR (l : List (ByteArray × Int)) (x : ByteArray × Int) : List (ByteArray × Int) := if scOkB l = true then (if scOkB (scPutL l x) = true then scPutL l x else l) else []
theorem sc_one_at {w : World} {B : Nat} {y : ByteArray × Int} {t : TypeId} {fr : Nat × Nat} (h : w.heap[B]? = some (.cells #[.string y.1, .int .i64 y.2] t fr)) : ReadsR scC 2 w (.slice (some ⟨B, 0, none⟩) 1 1) [y] := by
  refine .inr ⟨by simp, B, 0, 1, rfl, (Array.getElem?_eq_some_iff.1 h).1, by simp, by unfold maxLen; omega, fun k x hk => ?_⟩
  match k, hk with
  | 0, hk =>
    cases hk
    intro j u hu
    rw [Nat.zero_mul, Nat.zero_add, cell_of_row _ _ _ _ _ _ h]
    match j, hu with
    | 0, hu => cases hu; rfl
    | 1, hu => cases hu; rfl
    | j + 2, hu => simp [scC] at hu
  | k + 1, hk => simp at hk

set_option maxHeartbeats 8000000 in
set_option maxRecDepth 20000 in
theorem specScoresPut_any (v : Value) (l : List (ByteArray × Int)) (y : ByteArray × Int) (w : World) (hr : ScReads w v l) (hlen : l.length ≤ 1048576) :
    Calls Try.prog 35 #[v, .agg #[.string y.1, .int .i64 y.2]] w fun e w' => ∃ x, e = .returned (.tuple #[x, .bool (scPutF l y), .bool (scPutB l y)]) ∧ ScOwns w' w.heap.size x (scPutR l y) ∧ Below w.heap.size w w' := by
  obtain ⟨i0, hi0, hz0, hz1, hz2⟩ := info_parts scInfo
  obtain ⟨ao, cap, rfl⟩ := readsR_shape hr
  obtain ⟨W0, hW0⟩ : ∃ W0, w.alloc (.cells #[.string y.1, .int .i64 y.2] 62) = W0 := ⟨_, rfl⟩
  have hB0 : Below w.heap.size w W0 := by rw [← hW0]; exact (Below.refl _ w).alloc (Nat.le_refl _) _
  have hz0' : w.heap.size + 1 ≤ W0.heap.size := by rw [← hW0]; simp
  have hp : W0.cell? ⟨w.heap.size, 0, none⟩ = some (.string y.1) ∧ W0.cell? ⟨w.heap.size, 0 + 1, none⟩ = some (.int .i64 y.2) := by
    rw [← hW0]; exact ⟨by rw [cell_of_row _ _ _ _ _ _ (heap_alloc_new w _)]; rfl, by rw [cell_of_row _ _ _ _ _ _ (heap_alloc_new w _)]; rfl⟩
  go_enter Try.func35, Try.ntmps35
  go_wp2_with fail
  clear hW0
  refine (specScoresOk_any _ l _ (readsR_kept hr hB0) hlen).mono ?_
  rintro e w1 ⟨rfl, hb1⟩
  have hsz1 := hb1.size
  have hB1 := hB0.trans (hb1.mono hB0.size)
  have hp1 := sc_cell_kept hp hb1 (by omega)
  clear hp hb1 hB0
  cases hok : scOkB l with
  | false =>
    have HR : Hid (scPutR l y = []) := by show _ = _; unfold scPutR; rw [hok]; rfl
    have HB : Hid (scPutB l y = false) := by show _ = _; unfold scPutB; rw [hok]; rfl
    have HF : Hid (scPutF l y = false) := by show _ = _; unfold scPutF; rw [HB.out]; rfl
    have ho1 : ScOwns (w1.alloc (.cells #[] 62)) w.heap.size (.slice (some ⟨w1.heap.size, 0, none⟩) 0 0) [] := World.ownsRow_lit w1 #[] 0 (by omega) (by simp) rfl
    have hB2 : Below w.heap.size w (w1.alloc (.cells #[] 62)) := hB1.alloc (by omega) _
    clear hok
    go_wp2_with fail
    go_ret3
    exact ⟨_, by rw [HF.out, HB.out]; rfl, by rw [HR.out]; exact ho1, hB2⟩
  | true =>
    have hn16 : l.length ≤ 16 := by unfold scOkB at hok; rw [Bool.and_eq_true] at hok; simpa using hok.1
    have HOK : Hid (scOkB l = true) := hok
    have hc0 := hp1.1
    clear hok
    go_wp2_with fail
    refine (l3Without_any _ l y.1 _ (readsR_kept hr hB1) hlen).mono ?_
    rintro e w2 ⟨x2, rfl, hne2, ho2, hb2⟩
    have hsz2 := hb2.size
    have hB2 := hB1.trans (hb2.mono (by omega))
    have hp2 := sc_cell_kept hp1 hb2 (by omega)
    have hrl := scFl_len l y.1
    have HPL : Hid (scPutL l y = scIns (scFl l y.1) y) := rfl
    have HFL : Hid (scPutF l y = (scPutB l y && (((scFl l y.1).length : Int) == (l.length : Int)))) := rfl
    generalize scFl l y.1 = R at *
    obtain ⟨g, c2, hxv, hgb, hgz⟩ : ∃ g c2, x2 = .slice (some ⟨g, 0, none⟩) R.length c2 ∧ R.length ≤ c2 ∧ c2 ≤ maxLen := by
      rcases ho2.2 with ⟨h, _⟩ | ⟨g, cap', cur, hv, _, _, hnc, hcm, _⟩
      · exact absurd h hne2
      · exact ⟨g, cap', hv, hnc, hcm⟩
    subst hxv
    unfold maxLen at hgz
    clear hne2
    clear hc0 hp1 hb2 hB1
    go_wp2_with fail
    go_loopw [8] (fun i wr => ∃ k : Nat, k ≤ R.length ∧ i = .int .i64 (k : Int) ∧ scILow R y k ∧ Below w2.heap.size w2 wr) (fun i _ => R.length - (intOf i).toNat)
    case atStart => exact ⟨0, Nat.zero_le _, rfl, fun j hj => by omega, Below.refl _ _⟩
    case round =>
      obtain ⟨k, hk, rfl, hlow, hbr⟩ := hrel
      have hszr := hbr.size
      have hpr := sc_cell_kept hp2 hbr (by omega)
      have hor := ownsR_kept ho2 hbr
      by_cases hlt : k < R.length
      · obtain ⟨hq0, hq1⟩ := hpr
        have hkr : (k : Int) < (R.length : Int) := by omega
        have hd0 : wr.cell? ⟨g, k * 2, none⟩ = _ := cellR scC_len hor (scAt_some hlt) 0 _ rfl
        have hd1 : wr.cell? ⟨g, k * 2 + 1, none⟩ = _ := cellR scC_len hor (scAt_some hlt) 1 _ rfl
        have hgr : g < wr.heap.size := World.block_lt_of_cell? wr _ hd0
        have hwz : w.heap.size < wr.heap.size := by omega
        have HS : Hid (∀ w', Below wr.heap.size wr w' → (Below wr.heap.size wr w' ∧ w'.cell? ⟨w.heap.size, 0, none⟩ = some (.string y.1) ∧ w'.cell? ⟨w.heap.size, 1, none⟩ = some (.int .i64 y.2) ∧ w'.cell? ⟨g, k * 2, none⟩ = some (.string (scAt R k).1) ∧ w'.cell? ⟨g, k * 2 + 1, none⟩ = some (.int .i64 (scAt R k).2))) := fun w' h =>
          ⟨h, (h.cell (p := ⟨w.heap.size, 0, none⟩) hwz).trans hq0, (h.cell (p := ⟨w.heap.size, 1, none⟩) hwz).trans hq1, (h.cell (p := ⟨g, k * 2, none⟩) hgr).trans hd0, (h.cell (p := ⟨g, k * 2 + 1, none⟩) hgr).trans hd1⟩
        clear hq0 hq1 hd0 hd1 hor
        cases hA : scAheadB (scAt R k) y with
        | true =>
          have HL : Hid (scILow R y (k + 1)) := scILow_step hlow hA
          go_wp2_with fail
          refine wp_region_held_drew (S := (fun w' => Below wr.heap.size wr w' ∧ w'.cell? ⟨w.heap.size, 0, none⟩ = some (.string y.1) ∧ w'.cell? ⟨w.heap.size, 1, none⟩ = some (.int .i64 y.2) ∧ w'.cell? ⟨g, k * 2, none⟩ = some (.string (scAt R k).1) ∧ w'.cell? ⟨g, k * 2 + 1, none⟩ = some (.int .i64 (scAt R k).2))) (by kernel_rfl) (by exact HS.out _ (Below.refl _ _).drew) (fun hHeld => ?_)
          refine takeH (i := 0) (d := (some 18)) (v := ?_) rfl rfl (by kernel_rfl) (by kernel_rfl) (by kernel_rfl) (fun _ _ _ h => h) (by kernel_rfl) ?_ (by assumption) ?_
          rotate_left
          · (intro w hSw; (try dsimp only at hSw); go_simp; try with_reducible rfl)
          try simp only [Act.put, List.setIfInBounds_toArray, List.set_cons_succ, List.set_cons_zero]
          refine takeH (i := 1) (d := (some 19)) (v := ?_) rfl rfl (by kernel_rfl) (by kernel_rfl) (by kernel_rfl) (fun _ _ _ h => h) (by kernel_rfl) ?_ (by assumption) ?_
          rotate_left
          · (intro w hSw; (try dsimp only at hSw); go_simp; try with_reducible rfl)
          try simp only [Act.put, List.setIfInBounds_toArray, List.set_cons_succ, List.set_cons_zero]
          refine takeH (i := 2) (d := (some 20)) (v := ?_) rfl rfl (by kernel_rfl) (by kernel_rfl) (by kernel_rfl) (fun _ _ _ h => h) (by kernel_rfl) ?_ (by assumption) ?_
          rotate_left
          · (intro w hSw; (try dsimp only at hSw); go_simp; try with_reducible rfl)
          try simp only [Act.put, List.setIfInBounds_toArray, List.set_cons_succ, List.set_cons_zero]
          refine takeH (i := 3) (d := (some 21)) (v := ?_) rfl rfl (by kernel_rfl) (by kernel_rfl) (by kernel_rfl) (fun _ _ _ h => h) (by kernel_rfl) ?_ (by assumption) ?_
          rotate_left
          · (intro w hSw; (try dsimp only at hSw); go_simp; try with_reducible rfl)
          try simp only [Act.put, List.setIfInBounds_toArray, List.set_cons_succ, List.set_cons_zero]
          refine takeH (i := 4) (d := (some 22)) (v := ?_) rfl rfl (by kernel_rfl) (by kernel_rfl) (by kernel_rfl) (fun _ _ _ h => h) (by kernel_rfl) ?_ (by assumption) ?_
          rotate_left
          · (intro w hSw; (try dsimp only at hSw); go_simp; try with_reducible rfl)
          try simp only [Act.put, List.setIfInBounds_toArray, List.set_cons_succ, List.set_cons_zero]
          refine takeH (i := 5) (d := (some 23)) (v := ?_) rfl rfl (by kernel_rfl) (by kernel_rfl) (by kernel_rfl) (fun _ _ _ h => h) (by kernel_rfl) ?_ (by assumption) ?_
          rotate_left
          · (intro w hSw; (try dsimp only at hSw); go_simp; try with_reducible rfl)
          try simp only [Act.put, List.setIfInBounds_toArray, List.set_cons_succ, List.set_cons_zero]
          refine takeH (i := 6) (d := (some 24)) (v := ?_) rfl rfl (by kernel_rfl) (by kernel_rfl) (by kernel_rfl) (fun _ _ _ h => h) (by kernel_rfl) ?_ (by assumption) ?_
          rotate_left
          · (intro w hSw; (try dsimp only at hSw); go_simp; try with_reducible rfl)
          try simp only [Act.put, List.setIfInBounds_toArray, List.set_cons_succ, List.set_cons_zero]
          refine takeH (i := 7) (d := (some 25)) (v := ?_) rfl rfl (by kernel_rfl) (by kernel_rfl) (by kernel_rfl) (fun _ _ _ h => h) (by kernel_rfl) ?_ (by assumption) ?_
          rotate_left
          · (intro w hSw; (try dsimp only at hSw); go_simp; try with_reducible rfl)
          try simp only [Act.put, List.setIfInBounds_toArray, List.set_cons_succ, List.set_cons_zero]
          refine takeH (i := 8) (d := (some 26)) (v := ?_) rfl rfl (by kernel_rfl) (by kernel_rfl) (by kernel_rfl) (fun _ _ _ h => h) (by kernel_rfl) ?_ (by assumption) ?_
          rotate_left
          · (intro w hSw; (try dsimp only at hSw); go_simp; try with_reducible rfl)
          try simp only [Act.put, List.setIfInBounds_toArray, List.set_cons_succ, List.set_cons_zero]
          refine takeH (i := 9) (d := (some 27)) (v := ?_) rfl rfl (by kernel_rfl) (by kernel_rfl) (by kernel_rfl) (fun _ _ _ h => h) (by kernel_rfl) ?_ (by assumption) ?_
          rotate_left
          · (intro w hSw; (try dsimp only at hSw); go_simp; try with_reducible rfl)
          try simp only [Act.put, List.setIfInBounds_toArray, List.set_cons_succ, List.set_cons_zero]
          refine wpAnyH_ready (rs := [10]) (by kernel_rfl) (by simp) ?_
          refine AllReadyH.cons rfl (fun K hK => ?_) AllReadyH.nil
          go_simp
          refine (l3Ahead_any (scAt R k) y _).mono ?_; rintro e w3 ⟨he, hb3⟩; rw [hA] at he; subst he; have hk3 := HS.out _ (sc_heldStep hb3 ‹_›); clear hb3
          refine hK.out _ _ ?_ (fun hHeld => ?_)
          · exact hk3
          clear hK K
          try simp only [Act.put, List.setIfInBounds_toArray, List.set_cons_succ, List.set_cons_zero]
          refine takeH (i := 11) (d := (some 29)) (v := ?_) rfl rfl (by kernel_rfl) (by kernel_rfl) (by kernel_rfl) (fun _ _ _ h => h) (by kernel_rfl) ?_ (by assumption) ?_
          rotate_left
          · (intro w hSw; (try dsimp only at hSw); go_simp; try with_reducible rfl)
          try simp only [Act.put, List.setIfInBounds_toArray, List.set_cons_succ, List.set_cons_zero]
          refine wpAnyH_done (by kernel_rfl) ?_ _
          have hb5 := hbr.trans (hk3.1.mono hszr)
          clear hk3 hA HS hbr
          try clear hHeld
          go_wp2_with fail
          go_roundw
          case rel => exact ⟨k + 1, hlt, by go_num, HL.out, hb5⟩
          case measure => simp [intOf]; omega
        | false =>
          have HPOS : Hid (scIPos R y = k) := scIPos_at hlt hlow hA
          go_wp2_with fail
          refine wp_region_held_drew (S := (fun w' => Below wr.heap.size wr w' ∧ w'.cell? ⟨w.heap.size, 0, none⟩ = some (.string y.1) ∧ w'.cell? ⟨w.heap.size, 1, none⟩ = some (.int .i64 y.2) ∧ w'.cell? ⟨g, k * 2, none⟩ = some (.string (scAt R k).1) ∧ w'.cell? ⟨g, k * 2 + 1, none⟩ = some (.int .i64 (scAt R k).2))) (by kernel_rfl) (by exact HS.out _ (Below.refl _ _).drew) (fun hHeld => ?_)
          refine takeH (i := 0) (d := (some 18)) (v := ?_) rfl rfl (by kernel_rfl) (by kernel_rfl) (by kernel_rfl) (fun _ _ _ h => h) (by kernel_rfl) ?_ (by assumption) ?_
          rotate_left
          · (intro w hSw; (try dsimp only at hSw); go_simp; try with_reducible rfl)
          try simp only [Act.put, List.setIfInBounds_toArray, List.set_cons_succ, List.set_cons_zero]
          refine takeH (i := 1) (d := (some 19)) (v := ?_) rfl rfl (by kernel_rfl) (by kernel_rfl) (by kernel_rfl) (fun _ _ _ h => h) (by kernel_rfl) ?_ (by assumption) ?_
          rotate_left
          · (intro w hSw; (try dsimp only at hSw); go_simp; try with_reducible rfl)
          try simp only [Act.put, List.setIfInBounds_toArray, List.set_cons_succ, List.set_cons_zero]
          refine takeH (i := 2) (d := (some 20)) (v := ?_) rfl rfl (by kernel_rfl) (by kernel_rfl) (by kernel_rfl) (fun _ _ _ h => h) (by kernel_rfl) ?_ (by assumption) ?_
          rotate_left
          · (intro w hSw; (try dsimp only at hSw); go_simp; try with_reducible rfl)
          try simp only [Act.put, List.setIfInBounds_toArray, List.set_cons_succ, List.set_cons_zero]
          refine takeH (i := 3) (d := (some 21)) (v := ?_) rfl rfl (by kernel_rfl) (by kernel_rfl) (by kernel_rfl) (fun _ _ _ h => h) (by kernel_rfl) ?_ (by assumption) ?_
          rotate_left
          · (intro w hSw; (try dsimp only at hSw); go_simp; try with_reducible rfl)
          try simp only [Act.put, List.setIfInBounds_toArray, List.set_cons_succ, List.set_cons_zero]
          refine takeH (i := 4) (d := (some 22)) (v := ?_) rfl rfl (by kernel_rfl) (by kernel_rfl) (by kernel_rfl) (fun _ _ _ h => h) (by kernel_rfl) ?_ (by assumption) ?_
          rotate_left
          · (intro w hSw; (try dsimp only at hSw); go_simp; try with_reducible rfl)
          try simp only [Act.put, List.setIfInBounds_toArray, List.set_cons_succ, List.set_cons_zero]
          refine takeH (i := 5) (d := (some 23)) (v := ?_) rfl rfl (by kernel_rfl) (by kernel_rfl) (by kernel_rfl) (fun _ _ _ h => h) (by kernel_rfl) ?_ (by assumption) ?_
          rotate_left
          · (intro w hSw; (try dsimp only at hSw); go_simp; try with_reducible rfl)
          try simp only [Act.put, List.setIfInBounds_toArray, List.set_cons_succ, List.set_cons_zero]
          refine takeH (i := 6) (d := (some 24)) (v := ?_) rfl rfl (by kernel_rfl) (by kernel_rfl) (by kernel_rfl) (fun _ _ _ h => h) (by kernel_rfl) ?_ (by assumption) ?_
          rotate_left
          · (intro w hSw; (try dsimp only at hSw); go_simp; try with_reducible rfl)
          try simp only [Act.put, List.setIfInBounds_toArray, List.set_cons_succ, List.set_cons_zero]
          refine takeH (i := 7) (d := (some 25)) (v := ?_) rfl rfl (by kernel_rfl) (by kernel_rfl) (by kernel_rfl) (fun _ _ _ h => h) (by kernel_rfl) ?_ (by assumption) ?_
          rotate_left
          · (intro w hSw; (try dsimp only at hSw); go_simp; try with_reducible rfl)
          try simp only [Act.put, List.setIfInBounds_toArray, List.set_cons_succ, List.set_cons_zero]
          refine takeH (i := 8) (d := (some 26)) (v := ?_) rfl rfl (by kernel_rfl) (by kernel_rfl) (by kernel_rfl) (fun _ _ _ h => h) (by kernel_rfl) ?_ (by assumption) ?_
          rotate_left
          · (intro w hSw; (try dsimp only at hSw); go_simp; try with_reducible rfl)
          try simp only [Act.put, List.setIfInBounds_toArray, List.set_cons_succ, List.set_cons_zero]
          refine takeH (i := 9) (d := (some 27)) (v := ?_) rfl rfl (by kernel_rfl) (by kernel_rfl) (by kernel_rfl) (fun _ _ _ h => h) (by kernel_rfl) ?_ (by assumption) ?_
          rotate_left
          · (intro w hSw; (try dsimp only at hSw); go_simp; try with_reducible rfl)
          try simp only [Act.put, List.setIfInBounds_toArray, List.set_cons_succ, List.set_cons_zero]
          refine wpAnyH_ready (rs := [10]) (by kernel_rfl) (by simp) ?_
          refine AllReadyH.cons rfl (fun K hK => ?_) AllReadyH.nil
          go_simp
          refine (l3Ahead_any (scAt R k) y _).mono ?_; rintro e w3 ⟨he, hb3⟩; rw [hA] at he; subst he; have hk3 := HS.out _ (sc_heldStep hb3 ‹_›); clear hb3
          refine hK.out _ _ ?_ (fun hHeld => ?_)
          · exact hk3
          clear hK K
          try simp only [Act.put, List.setIfInBounds_toArray, List.set_cons_succ, List.set_cons_zero]
          refine takeH (i := 11) (d := (some 29)) (v := ?_) rfl rfl (by kernel_rfl) (by kernel_rfl) (by kernel_rfl) (fun _ _ _ h => h) (by kernel_rfl) ?_ (by assumption) ?_
          rotate_left
          · (intro w hSw; (try dsimp only at hSw); go_simp; try with_reducible rfl)
          try simp only [Act.put, List.setIfInBounds_toArray, List.set_cons_succ, List.set_cons_zero]
          refine wpAnyH_done (by kernel_rfl) ?_ _
          have hbq : Below w2.heap.size w2 w3 := hbr.trans (hk3.1.mono hszr)
          clear hk3 hA HS hbr
          try clear hHeld
          go_wp2_with fail
          have hoq := ownsR_kept ho2 hbq
          have hpq := sc_cell_kept hp2 hbq (by omega)
          have hqz := (hbq).size
          have hgq : g < (w3).heap.size := (World.ownsRow.lt hoq g rfl).2
          have hwq : w.heap.size < (w3).heap.size := by omega
          have hwq2 : w.heap.size ≤ (w3).heap.size := by omega
          have hrq := readsR_at (ownsR_reads scC_len hoq)
          have hBq : Below w.heap.size w (w3) := hB2.trans ((hbq).mono (by omega))
          have HA : Hid (ReadsR scC 2 (w3) (.slice (some ⟨g, 0, none⟩) (k) c2) (R.take (k))) := by
            have := readsR_cut (sz := 2) (c := scC) hgq hgb hgz hrq (ao := some ⟨g, 0, none⟩) (a := 0) (e := k) (n := k) (k := c2) (fun _ => by simp) (by simp) (Nat.zero_le _) (by omega) (by omega) (by omega)
            rw [List.drop_zero] at this; exact this
          obtain ⟨ab, hab⟩ : ∃ ab, (if c2 = k then some (⟨g, 0, none⟩ : Addr) else some ⟨g, (k) * 2, none⟩) = ab := ⟨_, rfl⟩
          have HBc : Hid (ReadsR scC 2 (w3) (.slice ab (R.length - (k)) (c2 - (k))) (R.drop (k))) := by
            have := readsR_cut (sz := 2) (c := scC) hgq hgb hgz hrq (ao := ab) (a := k) (e := R.length) (n := R.length - (k)) (k := c2 - (k)) (fun h => by rw [← hab, if_neg h]; simp) (by rw [← hab]; split <;> simp) (by omega) (Nat.le_refl _) rfl rfl
            rw [List.take_length] at this; exact this
          have HS2 : Hid (∀ w', Below (w3).heap.size (w3) w' → (w'.cell? ⟨w.heap.size, 0, none⟩ = some (.string y.1) ∧ w'.cell? ⟨w.heap.size, 1, none⟩ = some (.int .i64 y.2))) := fun w' h => ⟨(h.cell (p := ⟨w.heap.size, 0, none⟩) hwq).trans hpq.1, (h.cell (p := ⟨w.heap.size, 1, none⟩) hwq).trans hpq.2⟩
          have hj1 : ((k : Nat) : Int) ≤ (c2 : Int) := by omega
          have hj2 : ((k : Nat) : Int) ≤ (R.length : Int) := by omega
          have hj3 : (R.length : Int) ≤ (c2 : Int) := by omega
          have hRl : R.length ≤ 16 := by omega
          have hlw : ∀ (A : Array Value), A.size = 0 → Below (w3).heap.size (w3) ((w3).alloc (.cells A 62)) := fun A _ => (Below.refl _ _).alloc (Nat.le_refl _) _
          clear hoq hpq hrq hlw
          have hlitB : (((w3).alloc (.cells #[.string y.1, .int .i64 y.2] 62)).alloc (.cells #[] 62)).ownsRow (w3).heap.size 62 2 (.slice (some ⟨(w3).heap.size + 1, 0, none⟩) 0 0) 0 [] := by
            have := World.ownsRow_lit (base := (w3).heap.size) (e := 62) (size := 2) ((w3).alloc (.cells #[.string y.1, .int .i64 y.2] 62)) #[] 0 (by simp) (by simp) rfl
            rw [World.size_alloc] at this; exact this
          refine wp_region_held_drew (S := (fun w' => w'.cell? ⟨w.heap.size, 0, none⟩ = some (.string y.1) ∧ w'.cell? ⟨w.heap.size, 1, none⟩ = some (.int .i64 y.2))) (by kernel_rfl) (by exact HS2.out _ (Below.refl _ _).drew) (fun hHeld => ?_)
          refine takeH (i := 1) (d := (some 33)) (v := ?_) rfl rfl (by kernel_rfl) (by kernel_rfl) (by kernel_rfl) (fun _ _ _ h => h) (by kernel_rfl) ?_ (by assumption) ?_
          rotate_left
          · (intro w hSw; (try dsimp only at hSw); go_simp; try with_reducible rfl)
          try simp only [Act.put, List.setIfInBounds_toArray, List.set_cons_succ, List.set_cons_zero]
          refine takeH (i := 2) (d := (some 34)) (v := ?_) rfl rfl (by kernel_rfl) (by kernel_rfl) (by kernel_rfl) (fun _ _ _ h => h) (by kernel_rfl) ?_ (by assumption) ?_
          rotate_left
          · (intro w hSw; (try dsimp only at hSw); go_simp; try with_reducible rfl)
          try simp only [Act.put, List.setIfInBounds_toArray, List.set_cons_succ, List.set_cons_zero]
          refine takeH (i := 3) (d := (some 35)) (v := ?_) rfl rfl (by kernel_rfl) (by kernel_rfl) (by kernel_rfl) (fun _ _ _ h => h) (by kernel_rfl) ?_ (by assumption) ?_
          rotate_left
          · (intro w hSw; (try dsimp only at hSw); go_simp; try with_reducible rfl)
          try simp only [Act.put, List.setIfInBounds_toArray, List.set_cons_succ, List.set_cons_zero]
          refine takeH (i := 5) (d := (some 37)) (v := ?_) rfl rfl (by kernel_rfl) (by kernel_rfl) (by kernel_rfl) (fun _ _ _ h => h) (by kernel_rfl) ?_ (by assumption) ?_
          rotate_left
          · (intro w hSw; (try dsimp only at hSw); go_simp; try with_reducible rfl)
          try simp only [Act.put, List.setIfInBounds_toArray, List.set_cons_succ, List.set_cons_zero]
          refine takeH (i := 8) (d := (some 40)) (v := ?_) rfl rfl (by kernel_rfl) (by kernel_rfl) (by kernel_rfl) (fun _ _ _ h => h) (by kernel_rfl) ?_ (by assumption) ?_
          rotate_left
          · (intro w hSw; (try dsimp only at hSw); go_simp; try with_reducible rfl)
          try simp only [Act.put, List.setIfInBounds_toArray, List.set_cons_succ, List.set_cons_zero]
          refine takeH (i := 9) (d := (some 41)) (v := ?_) rfl rfl (by kernel_rfl) (by kernel_rfl) (by kernel_rfl) (fun _ _ _ h => h) (by kernel_rfl) ?_ (by assumption) ?_
          rotate_left
          · (intro w hSw; (try dsimp only at hSw); go_simp; try with_reducible rfl)
          try simp only [Act.put, List.setIfInBounds_toArray, List.set_cons_succ, List.set_cons_zero]
          refine takeH (i := 10) (d := (some 42)) (v := ?_) rfl rfl (by kernel_rfl) (by kernel_rfl) (by kernel_rfl) (fun _ _ _ h => h) (by kernel_rfl) ?_ (by assumption) ?_
          rotate_left
          · (intro w hSw; (try dsimp only at hSw); go_simp; try with_reducible rfl)
          try simp only [Act.put, List.setIfInBounds_toArray, List.set_cons_succ, List.set_cons_zero]
          refine wpAnyH_ready (rs := [0, 6]) (by kernel_rfl) (by simp) ?_
          refine AllReadyH.cons rfl (fun K hK => ?_) (AllReadyH.cons rfl (fun K hK => ?_) AllReadyH.nil)
          · go_simp
            refine hK.out _ _ ?_ (fun hHeld => ?_)
            · exact HS2.out _ ((Below.refl (w3).heap.size (w3)).alloc (Nat.le_refl _) (.cells #[] 62)).drew
            clear hK K
            (try simp only [Act.put]); (try simp only [List.setIfInBounds_toArray]); (try simp only [List.set_cons_succ]); (try simp only [List.set_cons_zero])
            refine wpAnyH_ready (rs := [4, 6]) (by kernel_rfl) (by simp) ?_
            refine AllReadyH.cons rfl (fun K hK => ?_) (AllReadyH.cons rfl (fun K hK => ?_) AllReadyH.nil)
            · refine step_append_R (c := scC) (d := some 36) rfl rfl (.tmp 32) (.tmp 35) 24 rfl (w3).heap.size 62 i0 _ 2 24 Try.underlying24 hi0 hz0 hz1 hz2 rfl (by decide) _ _ _ rfl (World.ownsRow.drew (World.ownsRow_lit (w3) #[] 0 (Nat.le_refl _) (by simp) rfl)) _ rfl (R.take (k)) (readsR_kept HA.out ((Below.refl (w3).heap.size (w3)).alloc (Nat.le_refl _) (.cells #[] 62)).drew) scC_len scC_one (by unfold maxLen; simp; omega) (by simp; omega) (by simp) ?_
              intro x5 w5 ho5 hg5
              have hb5 : Below (w3).heap.size (w3) w5 := Below.grown ((Below.refl (w3).heap.size (w3)).alloc (Nat.le_refl _) (.cells #[] 62)).drew hg5 (by simp) (fun k hk => by cases hk; exact Nat.le_refl _)
              refine hK.out _ _ ?_ (fun hHeld => ?_)
              · exact HS2.out _ hb5
              clear hK K
              (try simp only [Act.put]); (try simp only [List.setIfInBounds_toArray]); (try simp only [List.set_cons_succ]); (try simp only [List.set_cons_zero])
              have hz5 := hb5.size
              refine wpAnyH_ready (rs := [6]) (by kernel_rfl) (by simp) ?_
              refine AllReadyH.cons rfl (fun K hK => ?_) AllReadyH.nil
              go_simp
              refine hK.out _ _ ?_ (fun hHeld => ?_)
              · exact HS2.out _ (hb5.alloc hz5 (.cells #[.string y.1, .int .i64 y.2] 62))
              clear hK K
              (try simp only [Act.put]); (try simp only [List.setIfInBounds_toArray]); (try simp only [List.set_cons_succ]); (try simp only [List.set_cons_zero])
              refine wpAnyH_ready (rs := [7]) (by kernel_rfl) (by simp) ?_
              refine AllReadyH.cons rfl (fun K hK => ?_) AllReadyH.nil
              refine step_append_R (c := scC) (d := some 39) rfl rfl (.tmp 36) (.tmp 38) 24 rfl (w3).heap.size 62 i0 _ 2 24 Try.underlying24 hi0 hz0 hz1 hz2 rfl (by decide) _ _ _ rfl (World.ownsRow.alloc ho5 (.cells #[.string y.1, .int .i64 y.2] 62)) _ rfl [y] (sc_one_at (heap_alloc_new w5 (.cells #[.string y.1, .int .i64 y.2] 62))) scC_len scC_one (by unfold maxLen; simp; omega) (by simp; omega) (by simp; omega) ?_
              intro x6 w6 ho6 hg6
              have hb6 : Below (w3).heap.size (w3) w6 := Below.grown (hb5.alloc hz5 (.cells #[.string y.1, .int .i64 y.2] 62)) hg6 (by simp; omega) (fun k hk => (ho5.lt k hk).1)
              refine hK.out _ _ ?_ (fun hHeld => ?_)
              · exact HS2.out _ hb6
              clear hK K
              (try simp only [Act.put]); (try simp only [List.setIfInBounds_toArray]); (try simp only [List.set_cons_succ]); (try simp only [List.set_cons_zero])
              have hz6 := hb6.size
              refine wpAnyH_ready (rs := [11]) (by kernel_rfl) (by simp) ?_
              refine AllReadyH.cons rfl (fun K hK => ?_) AllReadyH.nil
              refine step_append_R (c := scC) (d := some 43) rfl rfl (.tmp 39) (.tmp 42) 24 rfl (w3).heap.size 62 i0 _ 2 24 Try.underlying24 hi0 hz0 hz1 hz2 rfl (by decide) _ _ _ rfl ho6 _ rfl (R.drop (k)) (readsR_kept HBc.out hb6) scC_len scC_one (by unfold maxLen; simp; omega) (by simp; omega) hz6 ?_
              intro x7 w7 ho7 hg7
              have hb7 : Below (w3).heap.size (w3) w7 := Below.grown hb6 hg7 hz6 (fun k hk => (ho6.lt k hk).1)
              refine hK.out _ _ ?_ (fun hHeld => ?_)
              · exact HS2.out _ hb7
              clear hK K
              (try simp only [Act.put]); (try simp only [List.setIfInBounds_toArray]); (try simp only [List.set_cons_succ]); (try simp only [List.set_cons_zero])
              refine takeH (i := 12) (d := (some 9)) (v := ?_) rfl rfl (by kernel_rfl) (by kernel_rfl) (by kernel_rfl) (fun _ _ _ h => h) (by kernel_rfl) ?_ (by assumption) ?_
              rotate_left
              · (intro w hSw; (try dsimp only at hSw); go_simp; try with_reducible rfl)
              (try simp only [Act.put]); (try simp only [List.setIfInBounds_toArray]); (try simp only [List.set_cons_succ]); (try simp only [List.set_cons_zero])
              refine wpAnyH_done (by kernel_rfl) ?_ _
              have hB7 : Below w.heap.size w w7 := hBq.trans (hb7.mono (by omega))
              have hoF0 : ScOwns w7 (w3).heap.size x7 (scIns R y) := by
                unfold scIns; rw [HPOS.out]; unfold ScOwns OwnsR
                rw [List.length_append, List.length_cons, List.flatMap_append, List.flatMap_cons]
                have h7 := ho7
                simp only [List.length_cons, List.length_nil, List.flatMap_cons, List.flatMap_nil, List.append_nil, List.nil_append, Nat.zero_add, List.append_assoc] at h7
                rw [show (R.take (k)).length + ((R.drop (k)).length + 1) = (R.take (k)).length + 1 + (R.drop (k)).length by omega]
                exact h7
              have hoF : ScOwns w7 w.heap.size x7 (scIns R y) := ownsR_base hoF0 hwq2
              have hinl : (scIns R y).length ≤ 17 := by rw [scIns_len]; omega
              obtain ⟨ax, cx, hxv⟩ := readsR_shape (ownsR_reads scC_len hoF)
              subst hxv
              have hb7z := hB7.size
              clear hHeld HA HBc HS2 hab ho5 hg5 hb5 ho6 hg6 hb6 ho7 hg7 hb7 hoF0 hBq
              generalize scIns R y = O at *
              go_wp2_with fail
              refine (specScoresOk_any _ O _ (ownsR_reads scC_len hoF) (by omega)).mono ?_
              rintro e w8 ⟨rfl, hb8⟩
              have hB8 := hB7.trans (hb8.mono hb7z)
              have ho8 := ownsR_kept hoF hb8
              have hz8 := hB8.size
              clear hb8 hoF hB7
              cases hok2 : scOkB O with
              | true =>
                have HR : Hid (scPutR l y = O) := by show _ = _; unfold scPutR; rw [HOK.out, HPL.out, hok2]; rfl
                have HB : Hid (scPutB l y = true) := by show _ = _; unfold scPutB; rw [HOK.out, HPL.out, hok2]; rfl
                have HF : Hid (scPutF l y = ((R.length : Int) == (l.length : Int))) := by show _ = _; rw [HFL.out, HB.out]; rfl
                clear hok2
                go_wp2_with fail
                go_ret3
                exact ⟨_, by rw [HF.out, HB.out]; rfl, by rw [HR.out]; exact ho8, hB8⟩
              | false =>
                have HR : Hid (scPutR l y = l) := by show _ = _; unfold scPutR; rw [HOK.out, HPL.out, hok2]; rfl
                have HB : Hid (scPutB l y = false) := by show _ = _; unfold scPutB; rw [HOK.out, HPL.out, hok2]; rfl
                have HF : Hid (scPutF l y = false) := by show _ = _; rw [HFL.out, HB.out]; rfl
                have ho9 : (w8.alloc (.cells #[] 62)).ownsRow w.heap.size 62 2 (.slice (some ⟨w8.heap.size, 0, none⟩) 0 0) 0 [] := World.ownsRow_lit w8 #[] 0 hz8 (by simp) rfl
                have hB9 : Below w.heap.size w (w8.alloc (.cells #[] 62)) := hB8.alloc hz8 _
                have hr9 := readsR_kept hr hB9
                clear hok2 ho8
                go_wp2_with (at_builtin; refine append_R (c := scC) rfl (.tmp 47) (.tmp 48) 24 rfl w.heap.size 62 i0 _ 2 24 Try.underlying24 hi0 hz0 hz1 hz2 rfl (by decide) _ _ _ rfl ho9 _ rfl l hr9 scC_len scC_one (by unfold maxLen; omega) (by omega) (by simp; omega) ?_)
                intro xa wa howna hgrowa
                have hoa : ScOwns wa w.heap.size xa l := by unfold ScOwns OwnsR; simpa using howna
                have hBa : Below w.heap.size w wa := hB9.grown hgrowa (by simp; omega) (fun j hj => (ho9.lt j hj).1)
                clear howna hgrowa
                go_wp2_with fail
                go_ret3
                exact ⟨_, by rw [HF.out, HB.out]; rfl, by rw [HR.out]; exact hoa, hBa⟩
            · go_simp
              refine hK.out _ _ ?_ (fun hHeld => ?_)
              · exact HS2.out _ (((Below.refl (w3).heap.size (w3)).alloc (Nat.le_refl _) (.cells #[] 62)).alloc (by simp) (.cells #[.string y.1, .int .i64 y.2] 62)).drew
              clear hK K
              (try simp only [Act.put]); (try simp only [List.setIfInBounds_toArray]); (try simp only [List.set_cons_succ]); (try simp only [List.set_cons_zero])
              refine wpAnyH_ready (rs := [4]) (by kernel_rfl) (by simp) ?_
              refine AllReadyH.cons rfl (fun K hK => ?_) AllReadyH.nil
              refine step_append_R (c := scC) (d := some 36) rfl rfl (.tmp 32) (.tmp 35) 24 rfl (w3).heap.size 62 i0 _ 2 24 Try.underlying24 hi0 hz0 hz1 hz2 rfl (by decide) _ _ _ rfl (World.ownsRow.drew (World.ownsRow.alloc (World.ownsRow_lit (w3) #[] 0 (Nat.le_refl _) (by simp) rfl) (.cells #[.string y.1, .int .i64 y.2] 62))) _ rfl (R.take (k)) (readsR_kept HA.out (((Below.refl (w3).heap.size (w3)).alloc (Nat.le_refl _) (.cells #[] 62)).alloc (by simp) (.cells #[.string y.1, .int .i64 y.2] 62)).drew) scC_len scC_one (by unfold maxLen; simp; omega) (by simp; omega) (by simp; omega) ?_
              intro x5 w5 ho5 hg5
              have hb5 : Below (w3).heap.size (w3) w5 := Below.grown (((Below.refl (w3).heap.size (w3)).alloc (Nat.le_refl _) (.cells #[] 62)).alloc (by simp) (.cells #[.string y.1, .int .i64 y.2] 62)).drew hg5 (by simp; omega) (fun k hk => by cases hk; exact Nat.le_refl _)
              refine hK.out _ _ ?_ (fun hHeld => ?_)
              · exact HS2.out _ hb5
              clear hK K
              (try simp only [Act.put]); (try simp only [List.setIfInBounds_toArray]); (try simp only [List.set_cons_succ]); (try simp only [List.set_cons_zero])
              have hz5 := hb5.size
              have hq5 : w5.heap[(w3).heap.size + 1]? = some (.cells #[.string y.1, .int .i64 y.2] 62) := (hg5.block ((w3).heap.size + 1) (by simp) (show some ((w3).heap.size + 1) ≠ some (w3).heap.size by simp)).trans (heap_alloc2_new (w3) (.cells #[] 62) (.cells #[.string y.1, .int .i64 y.2] 62))
              refine wpAnyH_ready (rs := [7]) (by kernel_rfl) (by simp) ?_
              refine AllReadyH.cons rfl (fun K hK => ?_) AllReadyH.nil
              refine step_append_R (c := scC) (d := some 39) rfl rfl (.tmp 36) (.tmp 38) 24 rfl (w3).heap.size 62 i0 _ 2 24 Try.underlying24 hi0 hz0 hz1 hz2 rfl (by decide) _ _ _ rfl ho5 _ rfl [y] (sc_one_at hq5) scC_len scC_one (by unfold maxLen; simp; omega) (by simp; omega) hz5 ?_
              intro x6 w6 ho6 hg6
              have hb6 : Below (w3).heap.size (w3) w6 := Below.grown hb5 hg6 hz5 (fun k hk => (ho5.lt k hk).1)
              refine hK.out _ _ ?_ (fun hHeld => ?_)
              · exact HS2.out _ hb6
              clear hK K
              (try simp only [Act.put]); (try simp only [List.setIfInBounds_toArray]); (try simp only [List.set_cons_succ]); (try simp only [List.set_cons_zero])
              have hz6 := hb6.size
              refine wpAnyH_ready (rs := [11]) (by kernel_rfl) (by simp) ?_
              refine AllReadyH.cons rfl (fun K hK => ?_) AllReadyH.nil
              refine step_append_R (c := scC) (d := some 43) rfl rfl (.tmp 39) (.tmp 42) 24 rfl (w3).heap.size 62 i0 _ 2 24 Try.underlying24 hi0 hz0 hz1 hz2 rfl (by decide) _ _ _ rfl ho6 _ rfl (R.drop (k)) (readsR_kept HBc.out hb6) scC_len scC_one (by unfold maxLen; simp; omega) (by simp; omega) hz6 ?_
              intro x7 w7 ho7 hg7
              have hb7 : Below (w3).heap.size (w3) w7 := Below.grown hb6 hg7 hz6 (fun k hk => (ho6.lt k hk).1)
              refine hK.out _ _ ?_ (fun hHeld => ?_)
              · exact HS2.out _ hb7
              clear hK K
              (try simp only [Act.put]); (try simp only [List.setIfInBounds_toArray]); (try simp only [List.set_cons_succ]); (try simp only [List.set_cons_zero])
              refine takeH (i := 12) (d := (some 9)) (v := ?_) rfl rfl (by kernel_rfl) (by kernel_rfl) (by kernel_rfl) (fun _ _ _ h => h) (by kernel_rfl) ?_ (by assumption) ?_
              rotate_left
              · (intro w hSw; (try dsimp only at hSw); go_simp; try with_reducible rfl)
              (try simp only [Act.put]); (try simp only [List.setIfInBounds_toArray]); (try simp only [List.set_cons_succ]); (try simp only [List.set_cons_zero])
              refine wpAnyH_done (by kernel_rfl) ?_ _
              have hB7 : Below w.heap.size w w7 := hBq.trans (hb7.mono (by omega))
              have hoF0 : ScOwns w7 (w3).heap.size x7 (scIns R y) := by
                unfold scIns; rw [HPOS.out]; unfold ScOwns OwnsR
                rw [List.length_append, List.length_cons, List.flatMap_append, List.flatMap_cons]
                have h7 := ho7
                simp only [List.length_cons, List.length_nil, List.flatMap_cons, List.flatMap_nil, List.append_nil, List.nil_append, Nat.zero_add, List.append_assoc] at h7
                rw [show (R.take (k)).length + ((R.drop (k)).length + 1) = (R.take (k)).length + 1 + (R.drop (k)).length by omega]
                exact h7
              have hoF : ScOwns w7 w.heap.size x7 (scIns R y) := ownsR_base hoF0 hwq2
              have hinl : (scIns R y).length ≤ 17 := by rw [scIns_len]; omega
              obtain ⟨ax, cx, hxv⟩ := readsR_shape (ownsR_reads scC_len hoF)
              subst hxv
              have hb7z := hB7.size
              clear hHeld HA HBc HS2 hab ho5 hg5 hb5 ho6 hg6 hb6 ho7 hg7 hb7 hoF0 hBq
              generalize scIns R y = O at *
              go_wp2_with fail
              refine (specScoresOk_any _ O _ (ownsR_reads scC_len hoF) (by omega)).mono ?_
              rintro e w8 ⟨rfl, hb8⟩
              have hB8 := hB7.trans (hb8.mono hb7z)
              have ho8 := ownsR_kept hoF hb8
              have hz8 := hB8.size
              clear hb8 hoF hB7
              cases hok2 : scOkB O with
              | true =>
                have HR : Hid (scPutR l y = O) := by show _ = _; unfold scPutR; rw [HOK.out, HPL.out, hok2]; rfl
                have HB : Hid (scPutB l y = true) := by show _ = _; unfold scPutB; rw [HOK.out, HPL.out, hok2]; rfl
                have HF : Hid (scPutF l y = ((R.length : Int) == (l.length : Int))) := by show _ = _; rw [HFL.out, HB.out]; rfl
                clear hok2
                go_wp2_with fail
                go_ret3
                exact ⟨_, by rw [HF.out, HB.out]; rfl, by rw [HR.out]; exact ho8, hB8⟩
              | false =>
                have HR : Hid (scPutR l y = l) := by show _ = _; unfold scPutR; rw [HOK.out, HPL.out, hok2]; rfl
                have HB : Hid (scPutB l y = false) := by show _ = _; unfold scPutB; rw [HOK.out, HPL.out, hok2]; rfl
                have HF : Hid (scPutF l y = false) := by show _ = _; rw [HFL.out, HB.out]; rfl
                have ho9 : (w8.alloc (.cells #[] 62)).ownsRow w.heap.size 62 2 (.slice (some ⟨w8.heap.size, 0, none⟩) 0 0) 0 [] := World.ownsRow_lit w8 #[] 0 hz8 (by simp) rfl
                have hB9 : Below w.heap.size w (w8.alloc (.cells #[] 62)) := hB8.alloc hz8 _
                have hr9 := readsR_kept hr hB9
                clear hok2 ho8
                go_wp2_with (at_builtin; refine append_R (c := scC) rfl (.tmp 47) (.tmp 48) 24 rfl w.heap.size 62 i0 _ 2 24 Try.underlying24 hi0 hz0 hz1 hz2 rfl (by decide) _ _ _ rfl ho9 _ rfl l hr9 scC_len scC_one (by unfold maxLen; omega) (by omega) (by simp; omega) ?_)
                intro xa wa howna hgrowa
                have hoa : ScOwns wa w.heap.size xa l := by unfold ScOwns OwnsR; simpa using howna
                have hBa : Below w.heap.size w wa := hB9.grown hgrowa (by simp; omega) (fun j hj => (ho9.lt j hj).1)
                clear howna hgrowa
                go_wp2_with fail
                go_ret3
                exact ⟨_, by rw [HF.out, HB.out]; rfl, by rw [HR.out]; exact hoa, hBa⟩
          · go_simp
            refine hK.out _ _ ?_ (fun hHeld => ?_)
            · exact HS2.out _ ((Below.refl (w3).heap.size (w3)).alloc (Nat.le_refl _) (.cells #[.string y.1, .int .i64 y.2] 62)).drew
            clear hK K
            (try simp only [Act.put]); (try simp only [List.setIfInBounds_toArray]); (try simp only [List.set_cons_succ]); (try simp only [List.set_cons_zero])
            refine wpAnyH_ready (rs := [0]) (by kernel_rfl) (by simp) ?_
            refine AllReadyH.cons rfl (fun K hK => ?_) AllReadyH.nil
            go_simp
            refine hK.out _ _ ?_ (fun hHeld => ?_)
            · exact HS2.out _ (((Below.refl (w3).heap.size (w3)).alloc (Nat.le_refl _) (.cells #[.string y.1, .int .i64 y.2] 62)).alloc (by simp) (.cells #[] 62)).drew
            clear hK K
            (try simp only [Act.put]); (try simp only [List.setIfInBounds_toArray]); (try simp only [List.set_cons_succ]); (try simp only [List.set_cons_zero])
            refine wpAnyH_ready (rs := [4]) (by kernel_rfl) (by simp) ?_
            refine AllReadyH.cons rfl (fun K hK => ?_) AllReadyH.nil
            refine step_append_R (c := scC) (d := some 36) rfl rfl (.tmp 32) (.tmp 35) 24 rfl (w3).heap.size 62 i0 _ 2 24 Try.underlying24 hi0 hz0 hz1 hz2 rfl (by decide) _ _ _ rfl (World.ownsRow.drew hlitB) _ rfl (R.take (k)) (readsR_kept HA.out (((Below.refl (w3).heap.size (w3)).alloc (Nat.le_refl _) (.cells #[.string y.1, .int .i64 y.2] 62)).alloc (by simp) (.cells #[] 62)).drew) scC_len scC_one (by unfold maxLen; simp; omega) (by simp; omega) (by simp; omega) ?_
            intro x5 w5 ho5 hg5
            have hb5 : Below (w3).heap.size (w3) w5 := Below.grown (((Below.refl (w3).heap.size (w3)).alloc (Nat.le_refl _) (.cells #[.string y.1, .int .i64 y.2] 62)).alloc (by simp) (.cells #[] 62)).drew hg5 (by simp; omega) (fun k hk => by cases hk; simp)
            refine hK.out _ _ ?_ (fun hHeld => ?_)
            · exact HS2.out _ hb5
            clear hK K
            (try simp only [Act.put]); (try simp only [List.setIfInBounds_toArray]); (try simp only [List.set_cons_succ]); (try simp only [List.set_cons_zero])
            have hz5 := hb5.size
            have hq5 : w5.heap[(w3).heap.size]? = some (.cells #[.string y.1, .int .i64 y.2] 62) := (hg5.block (w3).heap.size (by simp; omega) (show some (w3).heap.size ≠ some ((w3).heap.size + 1) by simp)).trans ((Below.heap_alloc ((w3).alloc (.cells #[.string y.1, .int .i64 y.2] 62)) (.cells #[] 62) (w3).heap.size (by simp)).trans (heap_alloc_new (w3) (.cells #[.string y.1, .int .i64 y.2] 62)))
            refine wpAnyH_ready (rs := [7]) (by kernel_rfl) (by simp) ?_
            refine AllReadyH.cons rfl (fun K hK => ?_) AllReadyH.nil
            refine step_append_R (c := scC) (d := some 39) rfl rfl (.tmp 36) (.tmp 38) 24 rfl (w3).heap.size 62 i0 _ 2 24 Try.underlying24 hi0 hz0 hz1 hz2 rfl (by decide) _ _ _ rfl ho5 _ rfl [y] (sc_one_at hq5) scC_len scC_one (by unfold maxLen; simp; omega) (by simp; omega) hz5 ?_
            intro x6 w6 ho6 hg6
            have hb6 : Below (w3).heap.size (w3) w6 := Below.grown hb5 hg6 hz5 (fun k hk => (ho5.lt k hk).1)
            refine hK.out _ _ ?_ (fun hHeld => ?_)
            · exact HS2.out _ hb6
            clear hK K
            (try simp only [Act.put]); (try simp only [List.setIfInBounds_toArray]); (try simp only [List.set_cons_succ]); (try simp only [List.set_cons_zero])
            have hz6 := hb6.size
            refine wpAnyH_ready (rs := [11]) (by kernel_rfl) (by simp) ?_
            refine AllReadyH.cons rfl (fun K hK => ?_) AllReadyH.nil
            refine step_append_R (c := scC) (d := some 43) rfl rfl (.tmp 39) (.tmp 42) 24 rfl (w3).heap.size 62 i0 _ 2 24 Try.underlying24 hi0 hz0 hz1 hz2 rfl (by decide) _ _ _ rfl ho6 _ rfl (R.drop (k)) (readsR_kept HBc.out hb6) scC_len scC_one (by unfold maxLen; simp; omega) (by simp; omega) hz6 ?_
            intro x7 w7 ho7 hg7
            have hb7 : Below (w3).heap.size (w3) w7 := Below.grown hb6 hg7 hz6 (fun k hk => (ho6.lt k hk).1)
            refine hK.out _ _ ?_ (fun hHeld => ?_)
            · exact HS2.out _ hb7
            clear hK K
            (try simp only [Act.put]); (try simp only [List.setIfInBounds_toArray]); (try simp only [List.set_cons_succ]); (try simp only [List.set_cons_zero])
            refine takeH (i := 12) (d := (some 9)) (v := ?_) rfl rfl (by kernel_rfl) (by kernel_rfl) (by kernel_rfl) (fun _ _ _ h => h) (by kernel_rfl) ?_ (by assumption) ?_
            rotate_left
            · (intro w hSw; (try dsimp only at hSw); go_simp; try with_reducible rfl)
            (try simp only [Act.put]); (try simp only [List.setIfInBounds_toArray]); (try simp only [List.set_cons_succ]); (try simp only [List.set_cons_zero])
            refine wpAnyH_done (by kernel_rfl) ?_ _
            have hB7 : Below w.heap.size w w7 := hBq.trans (hb7.mono (by omega))
            have hoF0 : ScOwns w7 (w3).heap.size x7 (scIns R y) := by
              unfold scIns; rw [HPOS.out]; unfold ScOwns OwnsR
              rw [List.length_append, List.length_cons, List.flatMap_append, List.flatMap_cons]
              have h7 := ho7
              simp only [List.length_cons, List.length_nil, List.flatMap_cons, List.flatMap_nil, List.append_nil, List.nil_append, Nat.zero_add, List.append_assoc] at h7
              rw [show (R.take (k)).length + ((R.drop (k)).length + 1) = (R.take (k)).length + 1 + (R.drop (k)).length by omega]
              exact h7
            have hoF : ScOwns w7 w.heap.size x7 (scIns R y) := ownsR_base hoF0 hwq2
            have hinl : (scIns R y).length ≤ 17 := by rw [scIns_len]; omega
            obtain ⟨ax, cx, hxv⟩ := readsR_shape (ownsR_reads scC_len hoF)
            subst hxv
            have hb7z := hB7.size
            clear hHeld HA HBc HS2 hab ho5 hg5 hb5 ho6 hg6 hb6 ho7 hg7 hb7 hoF0 hBq
            generalize scIns R y = O at *
            go_wp2_with fail
            refine (specScoresOk_any _ O _ (ownsR_reads scC_len hoF) (by omega)).mono ?_
            rintro e w8 ⟨rfl, hb8⟩
            have hB8 := hB7.trans (hb8.mono hb7z)
            have ho8 := ownsR_kept hoF hb8
            have hz8 := hB8.size
            clear hb8 hoF hB7
            cases hok2 : scOkB O with
            | true =>
              have HR : Hid (scPutR l y = O) := by show _ = _; unfold scPutR; rw [HOK.out, HPL.out, hok2]; rfl
              have HB : Hid (scPutB l y = true) := by show _ = _; unfold scPutB; rw [HOK.out, HPL.out, hok2]; rfl
              have HF : Hid (scPutF l y = ((R.length : Int) == (l.length : Int))) := by show _ = _; rw [HFL.out, HB.out]; rfl
              clear hok2
              go_wp2_with fail
              go_ret3
              exact ⟨_, by rw [HF.out, HB.out]; rfl, by rw [HR.out]; exact ho8, hB8⟩
            | false =>
              have HR : Hid (scPutR l y = l) := by show _ = _; unfold scPutR; rw [HOK.out, HPL.out, hok2]; rfl
              have HB : Hid (scPutB l y = false) := by show _ = _; unfold scPutB; rw [HOK.out, HPL.out, hok2]; rfl
              have HF : Hid (scPutF l y = false) := by show _ = _; rw [HFL.out, HB.out]; rfl
              have ho9 : (w8.alloc (.cells #[] 62)).ownsRow w.heap.size 62 2 (.slice (some ⟨w8.heap.size, 0, none⟩) 0 0) 0 [] := World.ownsRow_lit w8 #[] 0 hz8 (by simp) rfl
              have hB9 : Below w.heap.size w (w8.alloc (.cells #[] 62)) := hB8.alloc hz8 _
              have hr9 := readsR_kept hr hB9
              clear hok2 ho8
              go_wp2_with (at_builtin; refine append_R (c := scC) rfl (.tmp 47) (.tmp 48) 24 rfl w.heap.size 62 i0 _ 2 24 Try.underlying24 hi0 hz0 hz1 hz2 rfl (by decide) _ _ _ rfl ho9 _ rfl l hr9 scC_len scC_one (by unfold maxLen; omega) (by omega) (by simp; omega) ?_)
              intro xa wa howna hgrowa
              have hoa : ScOwns wa w.heap.size xa l := by unfold ScOwns OwnsR; simpa using howna
              have hBa : Below w.heap.size w wa := hB9.grown hgrowa (by simp; omega) (fun j hj => (ho9.lt j hj).1)
              clear howna hgrowa
              go_wp2_with fail
              go_ret3
              exact ⟨_, by rw [HF.out, HB.out]; rfl, by rw [HR.out]; exact hoa, hBa⟩
      · have HPOS : Hid (scIPos R y = k) := by
          have e : k = R.length := by omega
          show _ = _; rw [scIPos_end (by rw [← e]; exact hlow), e]
        have hd : decide ((k : Int) < (R.length : Int)) = false := by simp; omega
        go_wp2_with fail
        refine wp_region_held_drew (S := (fun _ => True)) (by kernel_rfl) (by trivial) (fun hHeld => ?_)
        refine takeH (i := 0) (d := (some 18)) (v := ?_) rfl rfl (by kernel_rfl) (by kernel_rfl) (by kernel_rfl) (fun _ _ _ h => h) (by kernel_rfl) ?_ (by assumption) ?_
        rotate_left
        · (intro w hSw; (try dsimp only at hSw); go_simp; try with_reducible rfl)
        try simp only [Act.put, List.setIfInBounds_toArray, List.set_cons_succ, List.set_cons_zero]
        refine takeH (i := 1) (d := (some 19)) (v := ?_) rfl rfl (by kernel_rfl) (by kernel_rfl) (by kernel_rfl) (fun _ _ _ h => h) (by kernel_rfl) ?_ (by assumption) ?_
        rotate_left
        · (intro w hSw; (try dsimp only at hSw); go_simp; try with_reducible rfl)
        try simp only [Act.put, List.setIfInBounds_toArray, List.set_cons_succ, List.set_cons_zero]
        refine takeH (i := 2) (d := (some 20)) (v := ?_) rfl rfl (by kernel_rfl) (by kernel_rfl) (by kernel_rfl) (fun _ _ _ h => h) (by kernel_rfl) ?_ (by assumption) ?_
        rotate_left
        · (intro w hSw; (try dsimp only at hSw); go_simp; try with_reducible rfl)
        try simp only [Act.put, List.setIfInBounds_toArray, List.set_cons_succ, List.set_cons_zero]
        refine takeH (i := 3) (d := (some 21)) (v := ?_) rfl rfl (by kernel_rfl) (by kernel_rfl) (by kernel_rfl) (fun _ _ _ h => h) (by kernel_rfl) ?_ (by assumption) ?_
        rotate_left
        · (intro w hSw; (try dsimp only at hSw); go_simp; try with_reducible rfl)
        try simp only [Act.put, List.setIfInBounds_toArray, List.set_cons_succ, List.set_cons_zero]
        refine takeH (i := 4) (d := (some 22)) (v := ?_) rfl rfl (by kernel_rfl) (by kernel_rfl) (by kernel_rfl) (fun _ _ _ h => h) (by kernel_rfl) ?_ (by assumption) ?_
        rotate_left
        · (intro w hSw; (try dsimp only at hSw); go_simp; try with_reducible rfl)
        try simp only [Act.put, List.setIfInBounds_toArray, List.set_cons_succ, List.set_cons_zero]
        refine skipH (i := 5) (d := (some 23)) rfl rfl (by kernel_rfl) (by kernel_rfl) (by kernel_rfl) (fun _ _ _ h => h) (by kernel_rfl) (by assumption) ?_
        try simp only [Act.put, List.setIfInBounds_toArray, List.set_cons_succ, List.set_cons_zero]
        refine skipH (i := 6) (d := (some 24)) rfl rfl (by kernel_rfl) (by kernel_rfl) (by kernel_rfl) (fun _ _ _ h => h) (by kernel_rfl) (by assumption) ?_
        try simp only [Act.put, List.setIfInBounds_toArray, List.set_cons_succ, List.set_cons_zero]
        refine skipH (i := 7) (d := (some 25)) rfl rfl (by kernel_rfl) (by kernel_rfl) (by kernel_rfl) (fun _ _ _ h => h) (by kernel_rfl) (by assumption) ?_
        try simp only [Act.put, List.setIfInBounds_toArray, List.set_cons_succ, List.set_cons_zero]
        refine skipH (i := 8) (d := (some 26)) rfl rfl (by kernel_rfl) (by kernel_rfl) (by kernel_rfl) (fun _ _ _ h => h) (by kernel_rfl) (by assumption) ?_
        try simp only [Act.put, List.setIfInBounds_toArray, List.set_cons_succ, List.set_cons_zero]
        refine skipH (i := 9) (d := (some 27)) rfl rfl (by kernel_rfl) (by kernel_rfl) (by kernel_rfl) (fun _ _ _ h => h) (by kernel_rfl) (by assumption) ?_
        try simp only [Act.put, List.setIfInBounds_toArray, List.set_cons_succ, List.set_cons_zero]
        refine skipH (i := 10) (d := (some 28)) rfl rfl (by kernel_rfl) (by kernel_rfl) (by kernel_rfl) (fun _ _ _ h => h) (by kernel_rfl) (by assumption) ?_
        try simp only [Act.put, List.setIfInBounds_toArray, List.set_cons_succ, List.set_cons_zero]
        refine takeH (i := 11) (d := (some 29)) (v := ?_) rfl rfl (by kernel_rfl) (by kernel_rfl) (by kernel_rfl) (fun _ _ _ h => h) (by kernel_rfl) ?_ (by assumption) ?_
        rotate_left
        · (intro w hSw; (try dsimp only at hSw); go_simp; try with_reducible rfl)
        try simp only [Act.put, List.setIfInBounds_toArray, List.set_cons_succ, List.set_cons_zero]
        refine wpAnyH_done (by kernel_rfl) ?_ _
        clear hHeld hd
        go_wp2_with fail
        have hbq : Below w2.heap.size w2 wr.drew := hbr.drew
        clear hpr hor hbr hszr
        generalize wr.drew = wq at hbq ⊢
        have hoq := ownsR_kept ho2 hbq
        have hpq := sc_cell_kept hp2 hbq (by omega)
        have hqz := (hbq).size
        have hgq : g < (wq).heap.size := (World.ownsRow.lt hoq g rfl).2
        have hwq : w.heap.size < (wq).heap.size := by omega
        have hwq2 : w.heap.size ≤ (wq).heap.size := by omega
        have hrq := readsR_at (ownsR_reads scC_len hoq)
        have hBq : Below w.heap.size w (wq) := hB2.trans ((hbq).mono (by omega))
        have HA : Hid (ReadsR scC 2 (wq) (.slice (some ⟨g, 0, none⟩) (k) c2) (R.take (k))) := by
          have := readsR_cut (sz := 2) (c := scC) hgq hgb hgz hrq (ao := some ⟨g, 0, none⟩) (a := 0) (e := k) (n := k) (k := c2) (fun _ => by simp) (by simp) (Nat.zero_le _) (by omega) (by omega) (by omega)
          rw [List.drop_zero] at this; exact this
        obtain ⟨ab, hab⟩ : ∃ ab, (if c2 = k then some (⟨g, 0, none⟩ : Addr) else some ⟨g, (k) * 2, none⟩) = ab := ⟨_, rfl⟩
        have HBc : Hid (ReadsR scC 2 (wq) (.slice ab (R.length - (k)) (c2 - (k))) (R.drop (k))) := by
          have := readsR_cut (sz := 2) (c := scC) hgq hgb hgz hrq (ao := ab) (a := k) (e := R.length) (n := R.length - (k)) (k := c2 - (k)) (fun h => by rw [← hab, if_neg h]; simp) (by rw [← hab]; split <;> simp) (by omega) (Nat.le_refl _) rfl rfl
          rw [List.take_length] at this; exact this
        have HS2 : Hid (∀ w', Below (wq).heap.size (wq) w' → (w'.cell? ⟨w.heap.size, 0, none⟩ = some (.string y.1) ∧ w'.cell? ⟨w.heap.size, 1, none⟩ = some (.int .i64 y.2))) := fun w' h => ⟨(h.cell (p := ⟨w.heap.size, 0, none⟩) hwq).trans hpq.1, (h.cell (p := ⟨w.heap.size, 1, none⟩) hwq).trans hpq.2⟩
        have hj1 : ((k : Nat) : Int) ≤ (c2 : Int) := by omega
        have hj2 : ((k : Nat) : Int) ≤ (R.length : Int) := by omega
        have hj3 : (R.length : Int) ≤ (c2 : Int) := by omega
        have hRl : R.length ≤ 16 := by omega
        have hlw : ∀ (A : Array Value), A.size = 0 → Below (wq).heap.size (wq) ((wq).alloc (.cells A 62)) := fun A _ => (Below.refl _ _).alloc (Nat.le_refl _) _
        clear hoq hpq hrq hlw
        have hlitB : (((wq).alloc (.cells #[.string y.1, .int .i64 y.2] 62)).alloc (.cells #[] 62)).ownsRow (wq).heap.size 62 2 (.slice (some ⟨(wq).heap.size + 1, 0, none⟩) 0 0) 0 [] := by
          have := World.ownsRow_lit (base := (wq).heap.size) (e := 62) (size := 2) ((wq).alloc (.cells #[.string y.1, .int .i64 y.2] 62)) #[] 0 (by simp) (by simp) rfl
          rw [World.size_alloc] at this; exact this
        refine wp_region_held_drew (S := (fun w' => w'.cell? ⟨w.heap.size, 0, none⟩ = some (.string y.1) ∧ w'.cell? ⟨w.heap.size, 1, none⟩ = some (.int .i64 y.2))) (by kernel_rfl) (by exact HS2.out _ (Below.refl _ _).drew) (fun hHeld => ?_)
        refine takeH (i := 1) (d := (some 33)) (v := ?_) rfl rfl (by kernel_rfl) (by kernel_rfl) (by kernel_rfl) (fun _ _ _ h => h) (by kernel_rfl) ?_ (by assumption) ?_
        rotate_left
        · (intro w hSw; (try dsimp only at hSw); go_simp; try with_reducible rfl)
        try simp only [Act.put, List.setIfInBounds_toArray, List.set_cons_succ, List.set_cons_zero]
        refine takeH (i := 2) (d := (some 34)) (v := ?_) rfl rfl (by kernel_rfl) (by kernel_rfl) (by kernel_rfl) (fun _ _ _ h => h) (by kernel_rfl) ?_ (by assumption) ?_
        rotate_left
        · (intro w hSw; (try dsimp only at hSw); go_simp; try with_reducible rfl)
        try simp only [Act.put, List.setIfInBounds_toArray, List.set_cons_succ, List.set_cons_zero]
        refine takeH (i := 3) (d := (some 35)) (v := ?_) rfl rfl (by kernel_rfl) (by kernel_rfl) (by kernel_rfl) (fun _ _ _ h => h) (by kernel_rfl) ?_ (by assumption) ?_
        rotate_left
        · (intro w hSw; (try dsimp only at hSw); go_simp; try with_reducible rfl)
        try simp only [Act.put, List.setIfInBounds_toArray, List.set_cons_succ, List.set_cons_zero]
        refine takeH (i := 5) (d := (some 37)) (v := ?_) rfl rfl (by kernel_rfl) (by kernel_rfl) (by kernel_rfl) (fun _ _ _ h => h) (by kernel_rfl) ?_ (by assumption) ?_
        rotate_left
        · (intro w hSw; (try dsimp only at hSw); go_simp; try with_reducible rfl)
        try simp only [Act.put, List.setIfInBounds_toArray, List.set_cons_succ, List.set_cons_zero]
        refine takeH (i := 8) (d := (some 40)) (v := ?_) rfl rfl (by kernel_rfl) (by kernel_rfl) (by kernel_rfl) (fun _ _ _ h => h) (by kernel_rfl) ?_ (by assumption) ?_
        rotate_left
        · (intro w hSw; (try dsimp only at hSw); go_simp; try with_reducible rfl)
        try simp only [Act.put, List.setIfInBounds_toArray, List.set_cons_succ, List.set_cons_zero]
        refine takeH (i := 9) (d := (some 41)) (v := ?_) rfl rfl (by kernel_rfl) (by kernel_rfl) (by kernel_rfl) (fun _ _ _ h => h) (by kernel_rfl) ?_ (by assumption) ?_
        rotate_left
        · (intro w hSw; (try dsimp only at hSw); go_simp; try with_reducible rfl)
        try simp only [Act.put, List.setIfInBounds_toArray, List.set_cons_succ, List.set_cons_zero]
        refine takeH (i := 10) (d := (some 42)) (v := ?_) rfl rfl (by kernel_rfl) (by kernel_rfl) (by kernel_rfl) (fun _ _ _ h => h) (by kernel_rfl) ?_ (by assumption) ?_
        rotate_left
        · (intro w hSw; (try dsimp only at hSw); go_simp; try with_reducible rfl)
        try simp only [Act.put, List.setIfInBounds_toArray, List.set_cons_succ, List.set_cons_zero]
        refine wpAnyH_ready (rs := [0, 6]) (by kernel_rfl) (by simp) ?_
        refine AllReadyH.cons rfl (fun K hK => ?_) (AllReadyH.cons rfl (fun K hK => ?_) AllReadyH.nil)
        · go_simp
          refine hK.out _ _ ?_ (fun hHeld => ?_)
          · exact HS2.out _ ((Below.refl (wq).heap.size (wq)).alloc (Nat.le_refl _) (.cells #[] 62)).drew
          clear hK K
          (try simp only [Act.put]); (try simp only [List.setIfInBounds_toArray]); (try simp only [List.set_cons_succ]); (try simp only [List.set_cons_zero])
          refine wpAnyH_ready (rs := [4, 6]) (by kernel_rfl) (by simp) ?_
          refine AllReadyH.cons rfl (fun K hK => ?_) (AllReadyH.cons rfl (fun K hK => ?_) AllReadyH.nil)
          · refine step_append_R (c := scC) (d := some 36) rfl rfl (.tmp 32) (.tmp 35) 24 rfl (wq).heap.size 62 i0 _ 2 24 Try.underlying24 hi0 hz0 hz1 hz2 rfl (by decide) _ _ _ rfl (World.ownsRow.drew (World.ownsRow_lit (wq) #[] 0 (Nat.le_refl _) (by simp) rfl)) _ rfl (R.take (k)) (readsR_kept HA.out ((Below.refl (wq).heap.size (wq)).alloc (Nat.le_refl _) (.cells #[] 62)).drew) scC_len scC_one (by unfold maxLen; simp; omega) (by simp; omega) (by simp) ?_
            intro x5 w5 ho5 hg5
            have hb5 : Below (wq).heap.size (wq) w5 := Below.grown ((Below.refl (wq).heap.size (wq)).alloc (Nat.le_refl _) (.cells #[] 62)).drew hg5 (by simp) (fun k hk => by cases hk; exact Nat.le_refl _)
            refine hK.out _ _ ?_ (fun hHeld => ?_)
            · exact HS2.out _ hb5
            clear hK K
            (try simp only [Act.put]); (try simp only [List.setIfInBounds_toArray]); (try simp only [List.set_cons_succ]); (try simp only [List.set_cons_zero])
            have hz5 := hb5.size
            refine wpAnyH_ready (rs := [6]) (by kernel_rfl) (by simp) ?_
            refine AllReadyH.cons rfl (fun K hK => ?_) AllReadyH.nil
            go_simp
            refine hK.out _ _ ?_ (fun hHeld => ?_)
            · exact HS2.out _ (hb5.alloc hz5 (.cells #[.string y.1, .int .i64 y.2] 62))
            clear hK K
            (try simp only [Act.put]); (try simp only [List.setIfInBounds_toArray]); (try simp only [List.set_cons_succ]); (try simp only [List.set_cons_zero])
            refine wpAnyH_ready (rs := [7]) (by kernel_rfl) (by simp) ?_
            refine AllReadyH.cons rfl (fun K hK => ?_) AllReadyH.nil
            refine step_append_R (c := scC) (d := some 39) rfl rfl (.tmp 36) (.tmp 38) 24 rfl (wq).heap.size 62 i0 _ 2 24 Try.underlying24 hi0 hz0 hz1 hz2 rfl (by decide) _ _ _ rfl (World.ownsRow.alloc ho5 (.cells #[.string y.1, .int .i64 y.2] 62)) _ rfl [y] (sc_one_at (heap_alloc_new w5 (.cells #[.string y.1, .int .i64 y.2] 62))) scC_len scC_one (by unfold maxLen; simp; omega) (by simp; omega) (by simp; omega) ?_
            intro x6 w6 ho6 hg6
            have hb6 : Below (wq).heap.size (wq) w6 := Below.grown (hb5.alloc hz5 (.cells #[.string y.1, .int .i64 y.2] 62)) hg6 (by simp; omega) (fun k hk => (ho5.lt k hk).1)
            refine hK.out _ _ ?_ (fun hHeld => ?_)
            · exact HS2.out _ hb6
            clear hK K
            (try simp only [Act.put]); (try simp only [List.setIfInBounds_toArray]); (try simp only [List.set_cons_succ]); (try simp only [List.set_cons_zero])
            have hz6 := hb6.size
            refine wpAnyH_ready (rs := [11]) (by kernel_rfl) (by simp) ?_
            refine AllReadyH.cons rfl (fun K hK => ?_) AllReadyH.nil
            refine step_append_R (c := scC) (d := some 43) rfl rfl (.tmp 39) (.tmp 42) 24 rfl (wq).heap.size 62 i0 _ 2 24 Try.underlying24 hi0 hz0 hz1 hz2 rfl (by decide) _ _ _ rfl ho6 _ rfl (R.drop (k)) (readsR_kept HBc.out hb6) scC_len scC_one (by unfold maxLen; simp; omega) (by simp; omega) hz6 ?_
            intro x7 w7 ho7 hg7
            have hb7 : Below (wq).heap.size (wq) w7 := Below.grown hb6 hg7 hz6 (fun k hk => (ho6.lt k hk).1)
            refine hK.out _ _ ?_ (fun hHeld => ?_)
            · exact HS2.out _ hb7
            clear hK K
            (try simp only [Act.put]); (try simp only [List.setIfInBounds_toArray]); (try simp only [List.set_cons_succ]); (try simp only [List.set_cons_zero])
            refine takeH (i := 12) (d := (some 9)) (v := ?_) rfl rfl (by kernel_rfl) (by kernel_rfl) (by kernel_rfl) (fun _ _ _ h => h) (by kernel_rfl) ?_ (by assumption) ?_
            rotate_left
            · (intro w hSw; (try dsimp only at hSw); go_simp; try with_reducible rfl)
            (try simp only [Act.put]); (try simp only [List.setIfInBounds_toArray]); (try simp only [List.set_cons_succ]); (try simp only [List.set_cons_zero])
            refine wpAnyH_done (by kernel_rfl) ?_ _
            have hB7 : Below w.heap.size w w7 := hBq.trans (hb7.mono (by omega))
            have hoF0 : ScOwns w7 (wq).heap.size x7 (scIns R y) := by
              unfold scIns; rw [HPOS.out]; unfold ScOwns OwnsR
              rw [List.length_append, List.length_cons, List.flatMap_append, List.flatMap_cons]
              have h7 := ho7
              simp only [List.length_cons, List.length_nil, List.flatMap_cons, List.flatMap_nil, List.append_nil, List.nil_append, Nat.zero_add, List.append_assoc] at h7
              rw [show (R.take (k)).length + ((R.drop (k)).length + 1) = (R.take (k)).length + 1 + (R.drop (k)).length by omega]
              exact h7
            have hoF : ScOwns w7 w.heap.size x7 (scIns R y) := ownsR_base hoF0 hwq2
            have hinl : (scIns R y).length ≤ 17 := by rw [scIns_len]; omega
            obtain ⟨ax, cx, hxv⟩ := readsR_shape (ownsR_reads scC_len hoF)
            subst hxv
            have hb7z := hB7.size
            clear hHeld HA HBc HS2 hab ho5 hg5 hb5 ho6 hg6 hb6 ho7 hg7 hb7 hoF0 hBq
            generalize scIns R y = O at *
            go_wp2_with fail
            refine (specScoresOk_any _ O _ (ownsR_reads scC_len hoF) (by omega)).mono ?_
            rintro e w8 ⟨rfl, hb8⟩
            have hB8 := hB7.trans (hb8.mono hb7z)
            have ho8 := ownsR_kept hoF hb8
            have hz8 := hB8.size
            clear hb8 hoF hB7
            cases hok2 : scOkB O with
            | true =>
              have HR : Hid (scPutR l y = O) := by show _ = _; unfold scPutR; rw [HOK.out, HPL.out, hok2]; rfl
              have HB : Hid (scPutB l y = true) := by show _ = _; unfold scPutB; rw [HOK.out, HPL.out, hok2]; rfl
              have HF : Hid (scPutF l y = ((R.length : Int) == (l.length : Int))) := by show _ = _; rw [HFL.out, HB.out]; rfl
              clear hok2
              go_wp2_with fail
              go_ret3
              exact ⟨_, by rw [HF.out, HB.out]; rfl, by rw [HR.out]; exact ho8, hB8⟩
            | false =>
              have HR : Hid (scPutR l y = l) := by show _ = _; unfold scPutR; rw [HOK.out, HPL.out, hok2]; rfl
              have HB : Hid (scPutB l y = false) := by show _ = _; unfold scPutB; rw [HOK.out, HPL.out, hok2]; rfl
              have HF : Hid (scPutF l y = false) := by show _ = _; rw [HFL.out, HB.out]; rfl
              have ho9 : (w8.alloc (.cells #[] 62)).ownsRow w.heap.size 62 2 (.slice (some ⟨w8.heap.size, 0, none⟩) 0 0) 0 [] := World.ownsRow_lit w8 #[] 0 hz8 (by simp) rfl
              have hB9 : Below w.heap.size w (w8.alloc (.cells #[] 62)) := hB8.alloc hz8 _
              have hr9 := readsR_kept hr hB9
              clear hok2 ho8
              go_wp2_with (at_builtin; refine append_R (c := scC) rfl (.tmp 47) (.tmp 48) 24 rfl w.heap.size 62 i0 _ 2 24 Try.underlying24 hi0 hz0 hz1 hz2 rfl (by decide) _ _ _ rfl ho9 _ rfl l hr9 scC_len scC_one (by unfold maxLen; omega) (by omega) (by simp; omega) ?_)
              intro xa wa howna hgrowa
              have hoa : ScOwns wa w.heap.size xa l := by unfold ScOwns OwnsR; simpa using howna
              have hBa : Below w.heap.size w wa := hB9.grown hgrowa (by simp; omega) (fun j hj => (ho9.lt j hj).1)
              clear howna hgrowa
              go_wp2_with fail
              go_ret3
              exact ⟨_, by rw [HF.out, HB.out]; rfl, by rw [HR.out]; exact hoa, hBa⟩
          · go_simp
            refine hK.out _ _ ?_ (fun hHeld => ?_)
            · exact HS2.out _ (((Below.refl (wq).heap.size (wq)).alloc (Nat.le_refl _) (.cells #[] 62)).alloc (by simp) (.cells #[.string y.1, .int .i64 y.2] 62)).drew
            clear hK K
            (try simp only [Act.put]); (try simp only [List.setIfInBounds_toArray]); (try simp only [List.set_cons_succ]); (try simp only [List.set_cons_zero])
            refine wpAnyH_ready (rs := [4]) (by kernel_rfl) (by simp) ?_
            refine AllReadyH.cons rfl (fun K hK => ?_) AllReadyH.nil
            refine step_append_R (c := scC) (d := some 36) rfl rfl (.tmp 32) (.tmp 35) 24 rfl (wq).heap.size 62 i0 _ 2 24 Try.underlying24 hi0 hz0 hz1 hz2 rfl (by decide) _ _ _ rfl (World.ownsRow.drew (World.ownsRow.alloc (World.ownsRow_lit (wq) #[] 0 (Nat.le_refl _) (by simp) rfl) (.cells #[.string y.1, .int .i64 y.2] 62))) _ rfl (R.take (k)) (readsR_kept HA.out (((Below.refl (wq).heap.size (wq)).alloc (Nat.le_refl _) (.cells #[] 62)).alloc (by simp) (.cells #[.string y.1, .int .i64 y.2] 62)).drew) scC_len scC_one (by unfold maxLen; simp; omega) (by simp; omega) (by simp; omega) ?_
            intro x5 w5 ho5 hg5
            have hb5 : Below (wq).heap.size (wq) w5 := Below.grown (((Below.refl (wq).heap.size (wq)).alloc (Nat.le_refl _) (.cells #[] 62)).alloc (by simp) (.cells #[.string y.1, .int .i64 y.2] 62)).drew hg5 (by simp; omega) (fun k hk => by cases hk; exact Nat.le_refl _)
            refine hK.out _ _ ?_ (fun hHeld => ?_)
            · exact HS2.out _ hb5
            clear hK K
            (try simp only [Act.put]); (try simp only [List.setIfInBounds_toArray]); (try simp only [List.set_cons_succ]); (try simp only [List.set_cons_zero])
            have hz5 := hb5.size
            have hq5 : w5.heap[(wq).heap.size + 1]? = some (.cells #[.string y.1, .int .i64 y.2] 62) := (hg5.block ((wq).heap.size + 1) (by simp) (show some ((wq).heap.size + 1) ≠ some (wq).heap.size by simp)).trans (heap_alloc2_new (wq) (.cells #[] 62) (.cells #[.string y.1, .int .i64 y.2] 62))
            refine wpAnyH_ready (rs := [7]) (by kernel_rfl) (by simp) ?_
            refine AllReadyH.cons rfl (fun K hK => ?_) AllReadyH.nil
            refine step_append_R (c := scC) (d := some 39) rfl rfl (.tmp 36) (.tmp 38) 24 rfl (wq).heap.size 62 i0 _ 2 24 Try.underlying24 hi0 hz0 hz1 hz2 rfl (by decide) _ _ _ rfl ho5 _ rfl [y] (sc_one_at hq5) scC_len scC_one (by unfold maxLen; simp; omega) (by simp; omega) hz5 ?_
            intro x6 w6 ho6 hg6
            have hb6 : Below (wq).heap.size (wq) w6 := Below.grown hb5 hg6 hz5 (fun k hk => (ho5.lt k hk).1)
            refine hK.out _ _ ?_ (fun hHeld => ?_)
            · exact HS2.out _ hb6
            clear hK K
            (try simp only [Act.put]); (try simp only [List.setIfInBounds_toArray]); (try simp only [List.set_cons_succ]); (try simp only [List.set_cons_zero])
            have hz6 := hb6.size
            refine wpAnyH_ready (rs := [11]) (by kernel_rfl) (by simp) ?_
            refine AllReadyH.cons rfl (fun K hK => ?_) AllReadyH.nil
            refine step_append_R (c := scC) (d := some 43) rfl rfl (.tmp 39) (.tmp 42) 24 rfl (wq).heap.size 62 i0 _ 2 24 Try.underlying24 hi0 hz0 hz1 hz2 rfl (by decide) _ _ _ rfl ho6 _ rfl (R.drop (k)) (readsR_kept HBc.out hb6) scC_len scC_one (by unfold maxLen; simp; omega) (by simp; omega) hz6 ?_
            intro x7 w7 ho7 hg7
            have hb7 : Below (wq).heap.size (wq) w7 := Below.grown hb6 hg7 hz6 (fun k hk => (ho6.lt k hk).1)
            refine hK.out _ _ ?_ (fun hHeld => ?_)
            · exact HS2.out _ hb7
            clear hK K
            (try simp only [Act.put]); (try simp only [List.setIfInBounds_toArray]); (try simp only [List.set_cons_succ]); (try simp only [List.set_cons_zero])
            refine takeH (i := 12) (d := (some 9)) (v := ?_) rfl rfl (by kernel_rfl) (by kernel_rfl) (by kernel_rfl) (fun _ _ _ h => h) (by kernel_rfl) ?_ (by assumption) ?_
            rotate_left
            · (intro w hSw; (try dsimp only at hSw); go_simp; try with_reducible rfl)
            (try simp only [Act.put]); (try simp only [List.setIfInBounds_toArray]); (try simp only [List.set_cons_succ]); (try simp only [List.set_cons_zero])
            refine wpAnyH_done (by kernel_rfl) ?_ _
            have hB7 : Below w.heap.size w w7 := hBq.trans (hb7.mono (by omega))
            have hoF0 : ScOwns w7 (wq).heap.size x7 (scIns R y) := by
              unfold scIns; rw [HPOS.out]; unfold ScOwns OwnsR
              rw [List.length_append, List.length_cons, List.flatMap_append, List.flatMap_cons]
              have h7 := ho7
              simp only [List.length_cons, List.length_nil, List.flatMap_cons, List.flatMap_nil, List.append_nil, List.nil_append, Nat.zero_add, List.append_assoc] at h7
              rw [show (R.take (k)).length + ((R.drop (k)).length + 1) = (R.take (k)).length + 1 + (R.drop (k)).length by omega]
              exact h7
            have hoF : ScOwns w7 w.heap.size x7 (scIns R y) := ownsR_base hoF0 hwq2
            have hinl : (scIns R y).length ≤ 17 := by rw [scIns_len]; omega
            obtain ⟨ax, cx, hxv⟩ := readsR_shape (ownsR_reads scC_len hoF)
            subst hxv
            have hb7z := hB7.size
            clear hHeld HA HBc HS2 hab ho5 hg5 hb5 ho6 hg6 hb6 ho7 hg7 hb7 hoF0 hBq
            generalize scIns R y = O at *
            go_wp2_with fail
            refine (specScoresOk_any _ O _ (ownsR_reads scC_len hoF) (by omega)).mono ?_
            rintro e w8 ⟨rfl, hb8⟩
            have hB8 := hB7.trans (hb8.mono hb7z)
            have ho8 := ownsR_kept hoF hb8
            have hz8 := hB8.size
            clear hb8 hoF hB7
            cases hok2 : scOkB O with
            | true =>
              have HR : Hid (scPutR l y = O) := by show _ = _; unfold scPutR; rw [HOK.out, HPL.out, hok2]; rfl
              have HB : Hid (scPutB l y = true) := by show _ = _; unfold scPutB; rw [HOK.out, HPL.out, hok2]; rfl
              have HF : Hid (scPutF l y = ((R.length : Int) == (l.length : Int))) := by show _ = _; rw [HFL.out, HB.out]; rfl
              clear hok2
              go_wp2_with fail
              go_ret3
              exact ⟨_, by rw [HF.out, HB.out]; rfl, by rw [HR.out]; exact ho8, hB8⟩
            | false =>
              have HR : Hid (scPutR l y = l) := by show _ = _; unfold scPutR; rw [HOK.out, HPL.out, hok2]; rfl
              have HB : Hid (scPutB l y = false) := by show _ = _; unfold scPutB; rw [HOK.out, HPL.out, hok2]; rfl
              have HF : Hid (scPutF l y = false) := by show _ = _; rw [HFL.out, HB.out]; rfl
              have ho9 : (w8.alloc (.cells #[] 62)).ownsRow w.heap.size 62 2 (.slice (some ⟨w8.heap.size, 0, none⟩) 0 0) 0 [] := World.ownsRow_lit w8 #[] 0 hz8 (by simp) rfl
              have hB9 : Below w.heap.size w (w8.alloc (.cells #[] 62)) := hB8.alloc hz8 _
              have hr9 := readsR_kept hr hB9
              clear hok2 ho8
              go_wp2_with (at_builtin; refine append_R (c := scC) rfl (.tmp 47) (.tmp 48) 24 rfl w.heap.size 62 i0 _ 2 24 Try.underlying24 hi0 hz0 hz1 hz2 rfl (by decide) _ _ _ rfl ho9 _ rfl l hr9 scC_len scC_one (by unfold maxLen; omega) (by omega) (by simp; omega) ?_)
              intro xa wa howna hgrowa
              have hoa : ScOwns wa w.heap.size xa l := by unfold ScOwns OwnsR; simpa using howna
              have hBa : Below w.heap.size w wa := hB9.grown hgrowa (by simp; omega) (fun j hj => (ho9.lt j hj).1)
              clear howna hgrowa
              go_wp2_with fail
              go_ret3
              exact ⟨_, by rw [HF.out, HB.out]; rfl, by rw [HR.out]; exact hoa, hBa⟩
        · go_simp
          refine hK.out _ _ ?_ (fun hHeld => ?_)
          · exact HS2.out _ ((Below.refl (wq).heap.size (wq)).alloc (Nat.le_refl _) (.cells #[.string y.1, .int .i64 y.2] 62)).drew
          clear hK K
          (try simp only [Act.put]); (try simp only [List.setIfInBounds_toArray]); (try simp only [List.set_cons_succ]); (try simp only [List.set_cons_zero])
          refine wpAnyH_ready (rs := [0]) (by kernel_rfl) (by simp) ?_
          refine AllReadyH.cons rfl (fun K hK => ?_) AllReadyH.nil
          go_simp
          refine hK.out _ _ ?_ (fun hHeld => ?_)
          · exact HS2.out _ (((Below.refl (wq).heap.size (wq)).alloc (Nat.le_refl _) (.cells #[.string y.1, .int .i64 y.2] 62)).alloc (by simp) (.cells #[] 62)).drew
          clear hK K
          (try simp only [Act.put]); (try simp only [List.setIfInBounds_toArray]); (try simp only [List.set_cons_succ]); (try simp only [List.set_cons_zero])
          refine wpAnyH_ready (rs := [4]) (by kernel_rfl) (by simp) ?_
          refine AllReadyH.cons rfl (fun K hK => ?_) AllReadyH.nil
          refine step_append_R (c := scC) (d := some 36) rfl rfl (.tmp 32) (.tmp 35) 24 rfl (wq).heap.size 62 i0 _ 2 24 Try.underlying24 hi0 hz0 hz1 hz2 rfl (by decide) _ _ _ rfl (World.ownsRow.drew hlitB) _ rfl (R.take (k)) (readsR_kept HA.out (((Below.refl (wq).heap.size (wq)).alloc (Nat.le_refl _) (.cells #[.string y.1, .int .i64 y.2] 62)).alloc (by simp) (.cells #[] 62)).drew) scC_len scC_one (by unfold maxLen; simp; omega) (by simp; omega) (by simp; omega) ?_
          intro x5 w5 ho5 hg5
          have hb5 : Below (wq).heap.size (wq) w5 := Below.grown (((Below.refl (wq).heap.size (wq)).alloc (Nat.le_refl _) (.cells #[.string y.1, .int .i64 y.2] 62)).alloc (by simp) (.cells #[] 62)).drew hg5 (by simp; omega) (fun k hk => by cases hk; simp)
          refine hK.out _ _ ?_ (fun hHeld => ?_)
          · exact HS2.out _ hb5
          clear hK K
          (try simp only [Act.put]); (try simp only [List.setIfInBounds_toArray]); (try simp only [List.set_cons_succ]); (try simp only [List.set_cons_zero])
          have hz5 := hb5.size
          have hq5 : w5.heap[(wq).heap.size]? = some (.cells #[.string y.1, .int .i64 y.2] 62) := (hg5.block (wq).heap.size (by simp; omega) (show some (wq).heap.size ≠ some ((wq).heap.size + 1) by simp)).trans ((Below.heap_alloc ((wq).alloc (.cells #[.string y.1, .int .i64 y.2] 62)) (.cells #[] 62) (wq).heap.size (by simp)).trans (heap_alloc_new (wq) (.cells #[.string y.1, .int .i64 y.2] 62)))
          refine wpAnyH_ready (rs := [7]) (by kernel_rfl) (by simp) ?_
          refine AllReadyH.cons rfl (fun K hK => ?_) AllReadyH.nil
          refine step_append_R (c := scC) (d := some 39) rfl rfl (.tmp 36) (.tmp 38) 24 rfl (wq).heap.size 62 i0 _ 2 24 Try.underlying24 hi0 hz0 hz1 hz2 rfl (by decide) _ _ _ rfl ho5 _ rfl [y] (sc_one_at hq5) scC_len scC_one (by unfold maxLen; simp; omega) (by simp; omega) hz5 ?_
          intro x6 w6 ho6 hg6
          have hb6 : Below (wq).heap.size (wq) w6 := Below.grown hb5 hg6 hz5 (fun k hk => (ho5.lt k hk).1)
          refine hK.out _ _ ?_ (fun hHeld => ?_)
          · exact HS2.out _ hb6
          clear hK K
          (try simp only [Act.put]); (try simp only [List.setIfInBounds_toArray]); (try simp only [List.set_cons_succ]); (try simp only [List.set_cons_zero])
          have hz6 := hb6.size
          refine wpAnyH_ready (rs := [11]) (by kernel_rfl) (by simp) ?_
          refine AllReadyH.cons rfl (fun K hK => ?_) AllReadyH.nil
          refine step_append_R (c := scC) (d := some 43) rfl rfl (.tmp 39) (.tmp 42) 24 rfl (wq).heap.size 62 i0 _ 2 24 Try.underlying24 hi0 hz0 hz1 hz2 rfl (by decide) _ _ _ rfl ho6 _ rfl (R.drop (k)) (readsR_kept HBc.out hb6) scC_len scC_one (by unfold maxLen; simp; omega) (by simp; omega) hz6 ?_
          intro x7 w7 ho7 hg7
          have hb7 : Below (wq).heap.size (wq) w7 := Below.grown hb6 hg7 hz6 (fun k hk => (ho6.lt k hk).1)
          refine hK.out _ _ ?_ (fun hHeld => ?_)
          · exact HS2.out _ hb7
          clear hK K
          (try simp only [Act.put]); (try simp only [List.setIfInBounds_toArray]); (try simp only [List.set_cons_succ]); (try simp only [List.set_cons_zero])
          refine takeH (i := 12) (d := (some 9)) (v := ?_) rfl rfl (by kernel_rfl) (by kernel_rfl) (by kernel_rfl) (fun _ _ _ h => h) (by kernel_rfl) ?_ (by assumption) ?_
          rotate_left
          · (intro w hSw; (try dsimp only at hSw); go_simp; try with_reducible rfl)
          (try simp only [Act.put]); (try simp only [List.setIfInBounds_toArray]); (try simp only [List.set_cons_succ]); (try simp only [List.set_cons_zero])
          refine wpAnyH_done (by kernel_rfl) ?_ _
          have hB7 : Below w.heap.size w w7 := hBq.trans (hb7.mono (by omega))
          have hoF0 : ScOwns w7 (wq).heap.size x7 (scIns R y) := by
            unfold scIns; rw [HPOS.out]; unfold ScOwns OwnsR
            rw [List.length_append, List.length_cons, List.flatMap_append, List.flatMap_cons]
            have h7 := ho7
            simp only [List.length_cons, List.length_nil, List.flatMap_cons, List.flatMap_nil, List.append_nil, List.nil_append, Nat.zero_add, List.append_assoc] at h7
            rw [show (R.take (k)).length + ((R.drop (k)).length + 1) = (R.take (k)).length + 1 + (R.drop (k)).length by omega]
            exact h7
          have hoF : ScOwns w7 w.heap.size x7 (scIns R y) := ownsR_base hoF0 hwq2
          have hinl : (scIns R y).length ≤ 17 := by rw [scIns_len]; omega
          obtain ⟨ax, cx, hxv⟩ := readsR_shape (ownsR_reads scC_len hoF)
          subst hxv
          have hb7z := hB7.size
          clear hHeld HA HBc HS2 hab ho5 hg5 hb5 ho6 hg6 hb6 ho7 hg7 hb7 hoF0 hBq
          generalize scIns R y = O at *
          go_wp2_with fail
          refine (specScoresOk_any _ O _ (ownsR_reads scC_len hoF) (by omega)).mono ?_
          rintro e w8 ⟨rfl, hb8⟩
          have hB8 := hB7.trans (hb8.mono hb7z)
          have ho8 := ownsR_kept hoF hb8
          have hz8 := hB8.size
          clear hb8 hoF hB7
          cases hok2 : scOkB O with
          | true =>
            have HR : Hid (scPutR l y = O) := by show _ = _; unfold scPutR; rw [HOK.out, HPL.out, hok2]; rfl
            have HB : Hid (scPutB l y = true) := by show _ = _; unfold scPutB; rw [HOK.out, HPL.out, hok2]; rfl
            have HF : Hid (scPutF l y = ((R.length : Int) == (l.length : Int))) := by show _ = _; rw [HFL.out, HB.out]; rfl
            clear hok2
            go_wp2_with fail
            go_ret3
            exact ⟨_, by rw [HF.out, HB.out]; rfl, by rw [HR.out]; exact ho8, hB8⟩
          | false =>
            have HR : Hid (scPutR l y = l) := by show _ = _; unfold scPutR; rw [HOK.out, HPL.out, hok2]; rfl
            have HB : Hid (scPutB l y = false) := by show _ = _; unfold scPutB; rw [HOK.out, HPL.out, hok2]; rfl
            have HF : Hid (scPutF l y = false) := by show _ = _; rw [HFL.out, HB.out]; rfl
            have ho9 : (w8.alloc (.cells #[] 62)).ownsRow w.heap.size 62 2 (.slice (some ⟨w8.heap.size, 0, none⟩) 0 0) 0 [] := World.ownsRow_lit w8 #[] 0 hz8 (by simp) rfl
            have hB9 : Below w.heap.size w (w8.alloc (.cells #[] 62)) := hB8.alloc hz8 _
            have hr9 := readsR_kept hr hB9
            clear hok2 ho8
            go_wp2_with (at_builtin; refine append_R (c := scC) rfl (.tmp 47) (.tmp 48) 24 rfl w.heap.size 62 i0 _ 2 24 Try.underlying24 hi0 hz0 hz1 hz2 rfl (by decide) _ _ _ rfl ho9 _ rfl l hr9 scC_len scC_one (by unfold maxLen; omega) (by omega) (by simp; omega) ?_)
            intro xa wa howna hgrowa
            have hoa : ScOwns wa w.heap.size xa l := by unfold ScOwns OwnsR; simpa using howna
            have hBa : Below w.heap.size w wa := hB9.grown hgrowa (by simp; omega) (fun j hj => (ho9.lt j hj).1)
            clear howna hgrowa
            go_wp2_with fail
            go_ret3
            exact ⟨_, by rw [HF.out, HB.out]; rfl, by rw [HR.out]; exact hoa, hBa⟩
end Go.Proofs.Ytdaahcenplepjaa
/- Scores that are ok, as a list: fitting, in order, each text once; one that is new is put in order. Plain facts: no walk. -/
namespace Go.Proofs.Ytdaahcenplepjaa
open Go.RowKit

theorem scLt_irrefl (a : ByteArray) : scLt a a = false := by
  cases h : scLt a a with
  | false => rfl
  | true => unfold scLt at h; rw [bytesLess_eq] at h; exact absurd (by simpa using h) (List.lt_irrefl _)
theorem scLt_trans {a b c : ByteArray} (h1 : scLt a b = true) (h2 : scLt b c = true) : scLt a c = true := by
  unfold scLt at *; rw [bytesLess_eq] at *
  simp only [decide_eq_true_eq] at *
  exact List.lt_trans h1 h2
theorem scLt_total {a b : ByteArray} (hne : a ≠ b) (h : scLt a b = false) : scLt b a = true := by
  unfold scLt at *; rw [bytesLess_eq] at *
  simp only [decide_eq_true_eq, decide_eq_false_iff_not] at *
  rcases List.le_iff_lt_or_eq.1 (List.not_lt.1 h) with h' | h'
  · exact h'
  · exact absurd (by apply ByteArray.ext; apply Array.toList_inj.1; rw [← ByteArray.toList_eq, ← ByteArray.toList_eq]; exact h'.symm) hne
theorem scAhead_trans {x y z : ByteArray × Int} (h1 : scAheadB x y = true) (h2 : scAheadB y z = true) : scAheadB x z = true := by
  unfold scAheadB at *
  simp only [Bool.or_eq_true, Bool.and_eq_true, decide_eq_true_eq] at *
  rcases h1 with h1 | ⟨h1, h3⟩ <;> rcases h2 with h2 | ⟨h2, h4⟩
  · left; omega
  · left; omega
  · left; omega
  · right; exact ⟨by omega, scLt_trans h3 h4⟩
theorem scAhead_total {x y : ByteArray × Int} (hne : x.1 ≠ y.1) (h : scAheadB x y = false) : scAheadB y x = true := by
  unfold scAheadB at *
  simp only [Bool.or_eq_false_iff, Bool.and_eq_false_iff, Bool.or_eq_true, Bool.and_eq_true, decide_eq_true_eq, decide_eq_false_iff_not] at *
  by_cases e : x.2 = y.2
  · right; refine ⟨e.symm, scLt_total hne ?_⟩
    rcases h.2 with h' | h'
    · exact absurd e h'
    · exact h'
  · left; omega
def scAll (l : List (ByteArray × Int)) : Prop := (∀ x ∈ l, scFitsB x = true) ∧ l.Pairwise (fun x y => scAheadB x y = true) ∧ l.Pairwise (fun x y => x.1 ≠ y.1)
theorem scAll_of {l : List (ByteArray × Int)} (h : scAllB l = true) : scAll l := by
  have hr : ∀ j, j < l.length → scRowOk l j = true := fun j hj => List.all_eq_true.1 h j (List.mem_range.2 hj)
  have hp : ∀ j, j < l.length → scFitsB (scAt l j) = true ∧ (0 < j → scAheadB (scAt l (j - 1)) (scAt l j) = true) ∧ scPlc l (scAt l j).1 = (j : Int) := fun j hj => by
    have := hr j hj
    unfold scRowOk at this
    simp only [Bool.and_eq_true, Bool.or_eq_true, decide_eq_true_eq] at this
    refine ⟨this.1.1, fun h0 => ?_, this.2⟩
    rcases this.1.2 with h' | h'
    · omega
    · exact h'
  refine ⟨fun x hx => ?_, ?_, ?_⟩
  · obtain ⟨j, hj, rfl⟩ := List.getElem_of_mem hx
    rw [← scAt_get hj]; exact (hp j hj).1
  · rw [List.pairwise_iff_getElem]
    intro i j hi hj hij
    have key : ∀ d i, i + d + 1 < l.length → scAheadB (scAt l i) (scAt l (i + d + 1)) = true := by
      intro d
      induction d with
      | zero => intro i h1; simpa using (hp (i + 1) h1).2.1 (by omega)
      | succ d ih =>
        intro i h1
        exact scAhead_trans (ih i (by omega)) (by have := (hp (i + (d + 1) + 1) h1).2.1 (by omega); rw [Nat.add_sub_cancel, ← Nat.add_assoc] at this; rw [← Nat.add_assoc]; exact this)
    have := key (j - i - 1) i (by omega)
    rw [show i + (j - i - 1) + 1 = j by omega, scAt_get hi, scAt_get hj] at this
    exact this
  · rw [List.pairwise_iff_getElem]
    intro i j hi hj hij he
    have h1 := (hp i hi).2.2
    have h2 := (hp j hj).2.2
    rw [scAt_get hi] at h1
    rw [scAt_get hj, ← he] at h2
    omega
theorem scAll_to {l : List (ByteArray × Int)} (h : scAll l) : scAllB l = true := by
  obtain ⟨h1, h2, h3⟩ := h
  unfold scAllB
  rw [List.all_eq_true]
  intro j hj
  have hj := List.mem_range.1 hj
  rw [List.pairwise_iff_getElem] at h2 h3
  unfold scRowOk
  simp only [Bool.and_eq_true, Bool.or_eq_true, decide_eq_true_eq]
  refine ⟨⟨h1 _ (scAt_mem hj), ?_⟩, (scPlc_hit hj (fun i hi => ?_) rfl).2⟩
  · rcases Nat.eq_zero_or_pos j with e | e
    · exact .inl e
    · right
      have := h2 (j - 1) j (by omega) hj (by omega)
      rw [scAt_get (by omega), scAt_get hj]; exact this
  · rw [scAt_get (by omega), scAt_get hj]; exact h3 i j (by omega) hj hi
theorem scOk_len {l : List (ByteArray × Int)} (h : scOkB l = true) : l.length ≤ 16 := by
  unfold scOkB at h; rw [Bool.and_eq_true] at h; simpa using h.1
theorem scOk_all {l : List (ByteArray × Int)} (h : scOkB l = true) : scAll l := by
  unfold scOkB at h; rw [Bool.and_eq_true] at h; exact scAll_of h.2
theorem scOk_mk {l : List (ByteArray × Int)} (h : l.length ≤ 16) (ha : scAll l) : scOkB l = true := by
  unfold scOkB; rw [Bool.and_eq_true]; exact ⟨by simpa using h, scAll_to ha⟩
theorem scIPos_low {r : List (ByteArray × Int)} {x y : ByteArray × Int} (hy : y ∈ r.take (scIPos r x)) : scAheadB y x = true := by
  obtain ⟨j, hj, rfl⟩ := List.getElem_of_mem hy
  rw [List.length_take] at hj
  have := List.not_of_lt_findIdx (p := fun y => !scAheadB y x) (xs := r) (i := j) (by unfold scIPos at hj; omega)
  rw [List.getElem_take]; simpa using this
theorem scIPos_high {r : List (ByteArray × Int)} {x y : ByteArray × Int} (ha : r.Pairwise (fun x y => scAheadB x y = true)) (hn : ∀ z ∈ r, z.1 ≠ x.1) (hy : y ∈ r.drop (scIPos r x)) : scAheadB x y = true := by
  obtain ⟨j, hj, rfl⟩ := List.getElem_of_mem hy
  rw [List.length_drop] at hj
  rw [List.getElem_drop]
  have hp : scIPos r x < r.length := by omega
  have h0 : scAheadB (r[scIPos r x]) x = false := by
    have := List.findIdx_getElem (p := fun y => !scAheadB y x) (xs := r) (w := hp)
    have h : (!scAheadB r[scIPos r x] x) = true := this
    simpa using h
  have h1 := scAhead_total (hn _ (List.getElem_mem hp)) h0
  rcases Nat.eq_zero_or_pos j with e | e
  · subst e; simpa using h1
  · rw [List.pairwise_iff_getElem] at ha
    exact scAhead_trans h1 (ha _ _ hp (by omega) (by omega))
theorem scIns_mem {r : List (ByteArray × Int)} {x y : ByteArray × Int} : y ∈ scIns r x ↔ y = x ∨ y ∈ r := by
  unfold scIns
  rw [List.mem_append, List.mem_cons]
  conv => rhs; rhs; rw [← List.take_append_drop (scIPos r x) r, List.mem_append]
  constructor
  · rintro (h | h | h)
    · exact .inr (.inl h)
    · exact .inl h
    · exact .inr (.inr h)
  · rintro (h | h | h)
    · exact .inr (.inl h)
    · exact .inl h
    · exact .inr (.inr h)
theorem scIns_all {r : List (ByteArray × Int)} {x : ByteArray × Int} (h : scAll r) (hx : scFitsB x = true) (hn : ∀ z ∈ r, z.1 ≠ x.1) : scAll (scIns r x) := by
  obtain ⟨h1, h2, h3⟩ := h
  have e := List.take_append_drop (scIPos r x) r
  refine ⟨fun y hy => ?_, ?_, ?_⟩
  · rcases scIns_mem.1 hy with h | h
    · rw [h]; exact hx
    · exact h1 y h
  · have h2' := h2; rw [← e, List.pairwise_append] at h2'
    unfold scIns; rw [List.pairwise_append, List.pairwise_cons]
    refine ⟨h2'.1, ⟨fun y hy => scIPos_high h2 hn hy, h2'.2.1⟩, fun a ha b hb => ?_⟩
    rcases List.mem_cons.1 hb with hb | hb
    · rw [hb]; exact scIPos_low ha
    · exact h2'.2.2 a ha b hb
  · have h3' := h3; rw [← e, List.pairwise_append] at h3'
    unfold scIns; rw [List.pairwise_append, List.pairwise_cons]
    refine ⟨h3'.1, ⟨fun y hy => fun he => hn y (List.mem_of_mem_drop hy) he.symm, h3'.2.1⟩, fun a ha b hb => ?_⟩
    rcases List.mem_cons.1 hb with hb | hb
    · rw [hb]; exact hn a (List.mem_of_mem_take ha)
    · exact h3'.2.2 a ha b hb
theorem scFl_new {l : List (ByteArray × Int)} {s : ByteArray} (hn : ∀ z ∈ l, z.1 ≠ s) : scFl l s = l := by
  unfold scFl
  rw [List.filter_eq_self]
  intro z hz; rw [scNe_iff]; simp [hn z hz]
/-- one that is new, and fits, where there is room -/
theorem scPut_new {l : List (ByteArray × Int)} {x : ByteArray × Int} (h : scOkB l = true) (hx : scFitsB x = true) (hn : ∀ z ∈ l, z.1 ≠ x.1) (hr : l.length < 16) : scPutR l x = scIns l x ∧ scOkB (scIns l x) = true := by
  have hok : scOkB (scIns l x) = true := scOk_mk (by rw [scIns_len]; omega) (scIns_all (scOk_all h) hx hn)
  unfold scPutR scPutL
  rw [scFl_new hn, if_pos h, if_pos hok]
  exact ⟨rfl, hok⟩
/-- whatever is put: ok still, one longer at the most, no text that was neither there nor put -/
theorem scPut_any {l : List (ByteArray × Int)} {x : ByteArray × Int} (h : scOkB l = true) : scOkB (scPutR l x) = true ∧ (scPutR l x).length ≤ l.length + 1 ∧ ∀ z ∈ scPutR l x, z = x ∨ z ∈ l := by
  unfold scPutR
  rw [if_pos h]
  split
  · next hok =>
    refine ⟨hok, ?_, fun z hz => ?_⟩
    · unfold scPutL; rw [scIns_len]; have := scFl_len l x.1; omega
    · rcases scIns_mem.1 hz with h' | h'
      · exact .inl h'
      · exact .inr ((List.mem_filter.1 h').1)
  · exact ⟨h, by omega, fun z hz => .inr hz⟩
end Go.Proofs.Ytdaahcenplepjaa
