/- What Scan answers; plain facts. -/
import Derived.Test.YtaiboncomibikaaGreatDoorBkA
namespace Go.Proofs.YtaiboncomibikaaGreatDoor
open Go.RowKit
set_option linter.unusedVariables false

/-- a key is behind another one -/
def bhB (h k : ByteArray) : Bool := Op.bytesLess h.toList k.toList
def abv (h : ByteArray) (l : List Ent) : List Ent := l.filter (fun e => bhB h e.key)
def lastK (l : List Ent) : ByteArray := (l.getLast?.map Ent.key).getD ByteArray.empty
def goodN (n : Int) (l : List Ent) (p : ByteArray) (c : Int) : Bool := bsOkB n l && (decide ((p.size : Int) ≤ 12) && decide (1 ≤ c))
def scanK (n : Int) (l : List Ent) (h p : ByteArray) (c : Int) : List ByteArray := if goodN n l p c = true then kk p ((abv h l).take c.toNat) else []
def scanN (n : Int) (l : List Ent) (h p : ByteArray) (c : Int) : ByteArray := if goodN n l p c = true then (if c.toNat < (abv h l).length then lastK ((abv h l).take c.toNat) else ByteArray.empty) else ByteArray.empty
theorem abv_hit {h : ByteArray} {l : List Ent} {e : Ent} (hh : bhB h e.key = true) : abv h (l ++ [e]) = abv h l ++ [e] := by unfold abv; simp [hh]
theorem abv_miss {h : ByteArray} {l : List Ent} {e : Ent} (hh : bhB h e.key = false) : abv h (l ++ [e]) = abv h l := by unfold abv; simp [hh]
theorem abv_len (h : ByteArray) (l : List Ent) : (abv h l).length ≤ l.length := List.length_filter_le _ _
theorem lastK_snoc (l : List Ent) (e : Ent) : lastK (l ++ [e]) = e.key := by unfold lastK; simp
theorem lastK_nil : lastK [] = ByteArray.empty := rfl
theorem abv_pre {h : ByteArray} {l : List Row} {j : Nat} (hj : j ≤ l.length) : ∃ r, abv h (l.map Row.e) = abv h ((l.take j).map Row.e) ++ r := by
  refine ⟨abv h ((l.drop j).map Row.e), ?_⟩
  unfold abv
  rw [← List.filter_append, ← List.map_append, List.take_append_drop]
/-- one more is behind, and no more are asked -/
theorem scan_full {n : Int} {l : List Row} {h p : ByteArray} {c : Int} (hg : goodN n (l.map Row.e) p c = true) {j : Nat} (hj : j < l.length) (hb : bhB h (esAt l j).e.key = true) (hc : ((abv h ((l.take j).map Row.e)).length : Int) = c) :
    scanK n (l.map Row.e) h p c = kk p (abv h ((l.take j).map Row.e)) ∧ scanN n (l.map Row.e) h p c = lastK (abv h ((l.take j).map Row.e)) := by
  have hcn : c.toNat = (abv h ((l.take j).map Row.e)).length := by omega
  obtain ⟨r, hr⟩ := abv_pre (h := h) (l := l) (j := j + 1) hj
  rw [take_snocE hj, abv_hit hb] at hr
  have ht : (abv h (l.map Row.e)).take c.toNat = abv h ((l.take j).map Row.e) := by
    rw [hr, hcn, List.append_assoc, List.take_left]
  unfold scanK scanN
  rw [if_pos hg, if_pos hg, ht, if_pos (by rw [hr, hcn]; simp)]
  exact ⟨rfl, rfl⟩
theorem scan_end {n : Int} {l : List Row} {h p : ByteArray} {c : Int} (hg : goodN n (l.map Row.e) p c = true) (hc : ((abv h (l.map Row.e)).length : Int) ≤ c) :
    scanK n (l.map Row.e) h p c = kk p (abv h (l.map Row.e)) ∧ scanN n (l.map Row.e) h p c = ByteArray.empty := by
  unfold scanK scanN
  rw [if_pos hg, if_pos hg, List.take_of_length_le (by omega), if_neg (by omega)]
  exact ⟨rfl, rfl⟩
theorem scan_bad {n : Int} {l : List Ent} {h p : ByteArray} {c : Int} (hg : goodN n l p c = false) : scanK n l h p c = [] ∧ scanN n l h p c = ByteArray.empty := by
  unfold scanK scanN; rw [hg]; exact ⟨rfl, rfl⟩
theorem scanK_len (n : Int) (l : List Ent) (h p : ByteArray) (c : Int) : (scanK n l h p c).length ≤ l.length := by
  unfold scanK
  split
  · have h1 := kk_len p ((abv h l).take c.toNat)
    have h2 := abv_len h l
    rw [List.length_take] at h1; omega
  · simp
end Go.Proofs.YtaiboncomibikaaGreatDoor
