/- Scores put one by one in order: rows in another order make the same list. Plain facts: no walk. -/
import Derived.Test.YtndegickekjkjaaScR
namespace Go.Proofs.Ytndegickekjkjaa
open Go.RowKit

def scFoldF (acc L : List (ByteArray × Int)) : List (ByteArray × Int) := L.foldl scIns acc
theorem scFoldF_snoc (acc L : List (ByteArray × Int)) (x : ByteArray × Int) : scFoldF acc (L ++ [x]) = scIns (scFoldF acc L) x := by
  unfold scFoldF; rw [List.foldl_append]; rfl
theorem scFoldF_len : ∀ (L acc : List (ByteArray × Int)), (scFoldF acc L).length = acc.length + L.length
  | [], acc => by simp [scFoldF]
  | x :: L, acc => by
    have h := scFoldF_len L (scIns acc x)
    unfold scFoldF at *
    rw [List.foldl_cons, h, scIns_len, List.length_cons]; omega
theorem scFoldF_mem (y : ByteArray × Int) : ∀ (L acc : List (ByteArray × Int)), y ∈ scFoldF acc L ↔ y ∈ L ∨ y ∈ acc
  | [], acc => by simp [scFoldF]
  | x :: L, acc => by
    have h := scFoldF_mem y L (scIns acc x)
    unfold scFoldF at *
    rw [List.foldl_cons, h, scIns_mem, List.mem_cons]
    constructor
    · rintro (h | h | h)
      · exact .inl (.inr h)
      · exact .inl (.inl h)
      · exact .inr h
    · rintro ((h | h) | h)
      · exact .inr (.inl h)
      · exact .inl h
      · exact .inr (.inr h)
/-- names of rows to come: each once, and none that is there -/
def scNew (L acc : List (ByteArray × Int)) : Prop := L.Pairwise (fun x y => x.1 ≠ y.1) ∧ ∀ x ∈ L, ∀ z ∈ acc, z.1 ≠ x.1
theorem scFoldF_all : ∀ (L acc : List (ByteArray × Int)), scAll acc → (∀ x ∈ L, scFitsB x = true) → scNew L acc → scAll (scFoldF acc L)
  | [], acc, h, _, _ => h
  | x :: L, acc, h, hf, hn => by
    obtain ⟨hp, hz⟩ := hn
    rw [List.pairwise_cons] at hp
    have hi := scIns_all h (hf x (List.mem_cons_self ..)) (hz x (List.mem_cons_self ..))
    have := scFoldF_all L (scIns acc x) hi (fun y hy => hf y (List.mem_cons_of_mem _ hy)) ⟨hp.2, fun y hy z hz' => by
      rcases scIns_mem.1 hz' with e | e
      · rw [e]; exact hp.1 y hy
      · exact hz y (List.mem_cons_of_mem _ hy) z e⟩
    unfold scFoldF at *
    rw [List.foldl_cons]; exact this
theorem scAhead_irrefl (x : ByteArray × Int) : scAheadB x x = false := by
  unfold scAheadB; rw [scLt_irrefl]; simp
theorem scSort_ext : ∀ {a b : List (ByteArray × Int)}, a.Pairwise (fun x y => scAheadB x y = true) → b.Pairwise (fun x y => scAheadB x y = true) → (∀ y, y ∈ a ↔ y ∈ b) → a = b
  | [], [], _, _, _ => rfl
  | [], y :: b, _, _, h => by have := (h y).2 (List.mem_cons_self ..); simp at this
  | x :: a, [], _, _, h => by have := (h x).1 (List.mem_cons_self ..); simp at this
  | x :: a, y :: b, ha, hb, h => by
    rw [List.pairwise_cons] at ha hb
    have hxy : x = y := by
      rcases List.mem_cons.1 ((h x).1 (List.mem_cons_self ..)) with e | e
      · exact e
      · rcases List.mem_cons.1 ((h y).2 (List.mem_cons_self ..)) with e' | e'
        · exact e'.symm
        · have := scAhead_trans (ha.1 y e') (hb.1 x e)
          rw [scAhead_irrefl] at this; cases this
    subst hxy
    rw [scSort_ext ha.2 hb.2 (fun z => ?_)]
    constructor
    · intro hz
      rcases List.mem_cons.1 ((h z).1 (List.mem_cons_of_mem _ hz)) with e | e
      · have := ha.1 z hz; rw [e, scAhead_irrefl] at this; cases this
      · exact e
    · intro hz
      rcases List.mem_cons.1 ((h z).2 (List.mem_cons_of_mem _ hz)) with e | e
      · have := hb.1 z hz; rw [e, scAhead_irrefl] at this; cases this
      · exact e
theorem scAll_nil : scAll [] := ⟨by simp, by simp, by simp⟩
/-- the same rows, each name once, in another order: the same list -/
theorem scFold_perm {K L : List (ByteArray × Int)} (hk : ∀ x ∈ K, scFitsB x = true) (hl : ∀ x ∈ L, scFitsB x = true) (hnk : K.Pairwise (fun x y => x.1 ≠ y.1)) (hnl : L.Pairwise (fun x y => x.1 ≠ y.1)) (h : ∀ y, y ∈ K ↔ y ∈ L) : scFoldF [] K = scFoldF [] L :=
  scSort_ext (scFoldF_all K [] scAll_nil hk ⟨hnk, by simp⟩).2.1 (scFoldF_all L [] scAll_nil hl ⟨hnl, by simp⟩).2.1 (fun y => by rw [scFoldF_mem, scFoldF_mem, h])

/-- the number of a text; 0 where it is not -/
def scNum (l : List (ByteArray × Int)) (s : ByteArray) : Int := if 0 ≤ scPlc l s then (scAt l (scIdx l s)).2 else 0
def scHas (l : List (ByteArray × Int)) (s : ByteArray) : Bool := decide (0 ≤ scPlc l s)
theorem scHas_iff {l : List (ByteArray × Int)} {s : ByteArray} : scHas l s = true ↔ ∃ x ∈ l, x.1 = s := by
  unfold scHas
  rw [decide_eq_true_eq]
  constructor
  · intro h
    have := scPlc_idx h
    refine ⟨scAt l (scIdx l s), scAt_mem this.2, ?_⟩
    have hh := List.findIdx_getElem (p := fun y : ByteArray × Int => decide (y.1 = s)) (xs := l) (w := this.2)
    rw [scAt_get this.2]; exact of_decide_eq_true hh
  · rintro ⟨x, hx, e⟩
    have : scIdx l s < l.length := List.findIdx_lt_length_of_exists ⟨x, hx, by simp [e]⟩
    unfold scPlc; rw [if_pos this]; omega
theorem scNum_mem {l : List (ByteArray × Int)} {x : ByteArray × Int} (h : scAll l) (hx : x ∈ l) : scNum l x.1 = x.2 := by
  obtain ⟨j, hj, rfl⟩ := List.getElem_of_mem hx
  have hn : scNo l l[j].1 j := fun i hi => by
    rw [scAt_get (by omega)]
    exact List.pairwise_iff_getElem.1 h.2.2 i j (by omega) hj hi
  have := scPlc_hit hj hn (by rw [scAt_get hj])
  unfold scNum
  rw [if_pos (by rw [this.2]; omega), this.1, scAt_get hj]
theorem scNum_not {l : List (ByteArray × Int)} {s : ByteArray} (h : scHas l s = false) : scNum l s = 0 := by
  unfold scHas at h; unfold scNum; rw [if_neg (by simpa using h)]
theorem scFits_num {x : ByteArray × Int} (h : scFitsB x = true) : x.1.size ≤ 40 ∧ -1000000000 ≤ x.2 ∧ x.2 ≤ 1000000000 := by
  unfold scFitsB at h; simp at h; omega
theorem scNum_bd {l : List (ByteArray × Int)} (h : scAll l) (s : ByteArray) : -1000000000 ≤ scNum l s ∧ scNum l s ≤ 1000000000 := by
  unfold scNum
  split
  · next h0 => exact (scFits_num (h.1 _ (scAt_mem (scPlc_idx h0).2))).2
  · omega
def clampS (n : Int) : Int := if n > 1000000000 then 1000000000 else if n < -1000000000 then -1000000000 else n
theorem clampS_id {n : Int} (h : -1000000000 ≤ n ∧ n ≤ 1000000000) : clampS n = n := by unfold clampS; rw [if_neg (by omega), if_neg (by omega)]
theorem clampS_bd (n : Int) : -1000000000 ≤ clampS n ∧ clampS n ≤ 1000000000 := by unfold clampS; split <;> (try split) <;> omega
def sumOf (a b : List (ByteArray × Int)) (s : ByteArray) : ByteArray × Int := (s, clampS (scNum a s + scNum b s))
/-- the model's rows, in the order in which they are put -/
def sumsAny (a b : List (ByteArray × Int)) : List (ByteArray × Int) := a.map (fun x => (x.1, clampS (x.2 + scNum b x.1))) ++ b.filter (fun x => !scHas a x.1)
def sumsBoth (a b : List (ByteArray × Int)) : List (ByteArray × Int) := (a.filter (fun x => scHas b x.1)).map (fun x => (x.1, clampS (x.2 + scNum b x.1)))
def sumAnyR (a b : List (ByteArray × Int)) : List (ByteArray × Int) := if (scOkB a && scOkB b) = true then scFoldF [] (sumsAny a b) else []
def sumBothR (a b : List (ByteArray × Int)) : List (ByteArray × Int) := if (scOkB a && scOkB b) = true then scFoldF [] (sumsBoth a b) else []
theorem scFits_mk {s : ByteArray} {n : Int} (h : s.size ≤ 40) (h2 : -1000000000 ≤ n ∧ n ≤ 1000000000) : scFitsB (s, n) = true := by
  unfold scFitsB; simp; omega
theorem sumOf_fits {a b : List (ByteArray × Int)} (ha : scAll a) (hb : scAll b) {s : ByteArray} (h : scHas a s = true ∨ scHas b s = true) : scFitsB (sumOf a b s) = true := by
  refine scFits_mk ?_ (clampS_bd _)
  rcases h with h | h
  · obtain ⟨x, hx, rfl⟩ := scHas_iff.1 h; exact (scFits_num (ha.1 x hx)).1
  · obtain ⟨x, hx, rfl⟩ := scHas_iff.1 h; exact (scFits_num (hb.1 x hx)).1
theorem sumsAny_mem {a b : List (ByteArray × Int)} (ha : scAll a) (hb : scAll b) (y : ByteArray × Int) : y ∈ sumsAny a b ↔ ∃ s, (scHas a s = true ∨ scHas b s = true) ∧ y = sumOf a b s := by
  unfold sumsAny
  rw [List.mem_append, List.mem_map, List.mem_filter]
  constructor
  · rintro (⟨x, hx, rfl⟩ | ⟨hy, hn⟩)
    · exact ⟨x.1, .inl (scHas_iff.2 ⟨x, hx, rfl⟩), by unfold sumOf; rw [scNum_mem ha hx]⟩
    · have hn' : scHas a y.1 = false := by simpa using hn
      refine ⟨y.1, .inr (scHas_iff.2 ⟨y, hy, rfl⟩), ?_⟩
      unfold sumOf; rw [scNum_mem hb hy, scNum_not hn', Int.zero_add, clampS_id (scFits_num (hb.1 y hy)).2]
  · rintro ⟨s, hs, rfl⟩
    cases hh : scHas a s with
    | true =>
      obtain ⟨x, hx, rfl⟩ := scHas_iff.1 hh
      exact .inl ⟨x, hx, by unfold sumOf; rw [scNum_mem ha hx]⟩
    | false =>
      rw [hh] at hs
      obtain ⟨x, hx, rfl⟩ := scHas_iff.1 (hs.resolve_left (by simp))
      have e : sumOf a b x.1 = x := by
        unfold sumOf; rw [scNum_mem hb hx, scNum_not hh, Int.zero_add, clampS_id (scFits_num (hb.1 x hx)).2]
      rw [e]
      exact .inr ⟨hx, by rw [hh]; rfl⟩
theorem sumsBoth_mem {a b : List (ByteArray × Int)} (ha : scAll a) (y : ByteArray × Int) : y ∈ sumsBoth a b ↔ ∃ s, (scHas a s = true ∧ scHas b s = true) ∧ y = sumOf a b s := by
  unfold sumsBoth
  rw [List.mem_map]
  constructor
  · rintro ⟨x, hx, rfl⟩
    rw [List.mem_filter] at hx
    exact ⟨x.1, ⟨scHas_iff.2 ⟨x, hx.1, rfl⟩, hx.2⟩, by unfold sumOf; rw [scNum_mem ha hx.1]⟩
  · rintro ⟨s, ⟨hs, ht⟩, rfl⟩
    obtain ⟨x, hx, rfl⟩ := scHas_iff.1 hs
    exact ⟨x, List.mem_filter.2 ⟨hx, ht⟩, by unfold sumOf; rw [scNum_mem ha hx]⟩
theorem names_map {a : List (ByteArray × Int)} (h : a.Pairwise (fun x y => x.1 ≠ y.1)) (f : ByteArray × Int → ByteArray × Int) (hf : ∀ x, (f x).1 = x.1) : (a.map f).Pairwise (fun x y => x.1 ≠ y.1) := by
  rw [List.pairwise_map]
  exact h.imp (fun {x y} hxy => by rw [hf, hf]; exact hxy)
theorem sumsAny_names {a b : List (ByteArray × Int)} (ha : scAll a) (hb : scAll b) : (sumsAny a b).Pairwise (fun x y => x.1 ≠ y.1) := by
  unfold sumsAny
  rw [List.pairwise_append]
  refine ⟨names_map ha.2.2 _ (fun _ => rfl), hb.2.2.sublist List.filter_sublist, fun x hx y hy he => ?_⟩
  obtain ⟨z, hz, rfl⟩ := List.mem_map.1 hx
  have hn := (List.mem_filter.1 hy).2
  rw [← he] at hn
  have : scHas a z.1 = true := scHas_iff.2 ⟨z, hz, rfl⟩
  simp [this] at hn
theorem sumsBoth_names {a b : List (ByteArray × Int)} (ha : scAll a) : (sumsBoth a b).Pairwise (fun x y => x.1 ≠ y.1) := by
  unfold sumsBoth
  exact names_map (ha.2.2.sublist List.filter_sublist) _ (fun _ => rfl)
theorem sums_names (a b : List (ByteArray × Int)) {T : List ByteArray} (hT : T.Pairwise (fun x y => x ≠ y)) : (T.map (sumOf a b)).Pairwise (fun x y => x.1 ≠ y.1) := by
  rw [List.pairwise_map]; exact hT.imp (fun {x y} h => h)
/-- the tie: the program's rows, put in order, are the model's -/
theorem sums_any {a b : List (ByteArray × Int)} (ha : scAll a) (hb : scAll b) {T : List ByteArray} (hT : T.Pairwise (fun x y => x ≠ y)) (h : ∀ s, s ∈ T ↔ scHas a s = true ∨ scHas b s = true) : scFoldF [] (T.map (sumOf a b)) = scFoldF [] (sumsAny a b) := by
  have hm : ∀ y, y ∈ T.map (sumOf a b) ↔ y ∈ sumsAny a b := fun y => by
    rw [sumsAny_mem ha hb, List.mem_map]
    exact ⟨fun ⟨s, hs, e⟩ => ⟨s, (h s).1 hs, e.symm⟩, fun ⟨s, hs, e⟩ => ⟨s, (h s).2 hs, e.symm⟩⟩
  have hf : ∀ y ∈ T.map (sumOf a b), scFitsB y = true := fun y hy => by
    obtain ⟨s, hs, rfl⟩ := List.mem_map.1 hy; exact sumOf_fits ha hb ((h s).1 hs)
  exact scFold_perm hf (fun y hy => hf y ((hm y).2 hy)) (sums_names a b hT) (sumsAny_names ha hb) hm
theorem sums_both {a b : List (ByteArray × Int)} (ha : scAll a) (hb : scAll b) {T : List ByteArray} (hT : T.Pairwise (fun x y => x ≠ y)) (h : ∀ s, s ∈ T ↔ scHas a s = true ∧ scHas b s = true) : scFoldF [] (T.map (sumOf a b)) = scFoldF [] (sumsBoth a b) := by
  have hm : ∀ y, y ∈ T.map (sumOf a b) ↔ y ∈ sumsBoth a b := fun y => by
    rw [sumsBoth_mem ha, List.mem_map]
    exact ⟨fun ⟨s, hs, e⟩ => ⟨s, (h s).1 hs, e.symm⟩, fun ⟨s, hs, e⟩ => ⟨s, (h s).2 hs, e.symm⟩⟩
  have hf : ∀ y ∈ T.map (sumOf a b), scFitsB y = true := fun y hy => by
    obtain ⟨s, hs, rfl⟩ := List.mem_map.1 hy; exact sumOf_fits ha hb (.inl ((h s).1 hs).1)
  exact scFold_perm hf (fun y hy => hf y ((hm y).2 hy)) (sums_names a b hT) (sumsBoth_names ha) hm
theorem sumsAny_len (a b : List (ByteArray × Int)) : (sumsAny a b).length ≤ a.length + b.length := by
  unfold sumsAny; rw [List.length_append, List.length_map]; have := List.length_filter_le (fun x => !scHas a x.1) b; omega
theorem sumsBoth_len (a b : List (ByteArray × Int)) : (sumsBoth a b).length ≤ a.length := by
  unfold sumsBoth; rw [List.length_map]; exact List.length_filter_le _ _
end Go.Proofs.Ytndegickekjkjaa
