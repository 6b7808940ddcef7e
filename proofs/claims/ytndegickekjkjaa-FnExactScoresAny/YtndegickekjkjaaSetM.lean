/- Sets as lists: ascending lists, merging two of them, putting a text among others. No walk. -/
import Derived.Test.YtndegickekjkjaaOkS
import Derived.Sort.Walk0
namespace Go.Proofs.Ytndegickekjkjaa
open Go.RowKit

def ltT (a b : ByteArray) : Bool := Op.bytesLess a.toList b.toList
theorem toList_inj {a b : ByteArray} (h : a.toList = b.toList) : a = b := bytes_ext h
theorem ltT_iff {a b : ByteArray} : ltT a b = true ↔ a.toList < b.toList := by unfold ltT; rw [bytesLess_eq]; simp
theorem ltT_irrefl (a : ByteArray) : ltT a a = false := by
  cases h : ltT a a with
  | false => rfl
  | true => exact absurd (ltT_iff.1 h) (List.lt_irrefl _)
theorem ltT_trans {a b c : ByteArray} (h1 : ltT a b = true) (h2 : ltT b c = true) : ltT a c = true := ltT_iff.2 (List.lt_trans (ltT_iff.1 h1) (ltT_iff.1 h2))
theorem ltT_tri {a b : ByteArray} (h1 : ltT a b = false) (h2 : ltT b a = false) : a = b := by
  have n1 : ¬ a.toList < b.toList := fun h => by rw [ltT_iff.2 h] at h1; cases h1
  have n2 : ¬ b.toList < a.toList := fun h => by rw [ltT_iff.2 h] at h2; cases h2
  exact toList_inj (List.le_antisymm (List.not_lt.1 n2) (List.not_lt.1 n1))
theorem ltT_asymm {a b : ByteArray} (h : ltT a b = true) : ltT b a = false := by
  cases h2 : ltT b a with
  | false => rfl
  | true => have := ltT_trans h h2; rw [ltT_irrefl] at this; cases this
theorem ltT_ne {a b : ByteArray} (h : ltT a b = true) : a ≠ b := fun e => by rw [e, ltT_irrefl] at h; cases h

abbrev Asc (l : List ByteArray) : Prop := l.Pairwise (fun a b => ltT a b = true)
theorem asc_of {l : List ByteArray} (h : ascB l = true) : Asc l := by
  have h1 : ∀ j, 1 ≤ j → j < l.length → ltT (at_ l (j - 1)) (at_ l j) = true := by
    intro j h1 h2
    unfold ascB at h; rw [List.all_eq_true] at h
    have := h j (List.mem_range.2 h2)
    simp only [Bool.or_eq_true, decide_eq_true_eq] at this
    rcases this with h' | h'
    · omega
    · exact h'
  clear h
  have h2 : ∀ (d i : Nat), i + d + 1 < l.length → ltT (at_ l i) (at_ l (i + d + 1)) = true := by
    intro d
    induction d with
    | zero => intro i hi; exact h1 (i + 1) (by omega) (by omega)
    | succ d ih =>
      intro i hi
      exact ltT_trans (ih i (by omega)) (h1 (i + (d + 1) + 1) (by omega) hi)
  rw [Asc, List.pairwise_iff_getElem]
  intro i j hi hj hij
  have := h2 (j - i - 1) i (by omega)
  rw [show i + (j - i - 1) + 1 = j by omega, at_lt hi, at_lt hj] at this
  exact this
/-- an ascending list is told by what it has -/
theorem asc_ext : ∀ {a b : List ByteArray}, Asc a → Asc b → (∀ s, s ∈ a ↔ s ∈ b) → a = b
  | [], [], _, _, _ => rfl
  | [], y :: b, _, _, h => by have := (h y).2 (by simp); simp at this
  | x :: a, [], _, _, h => by have := (h x).1 (by simp); simp at this
  | x :: a, y :: b, ha, hb, h => by
    rw [Asc, List.pairwise_cons] at ha hb
    have e : x = y := by
      have hx := (h x).1 (by simp)
      have hy := (h y).2 (by simp)
      rw [List.mem_cons] at hx hy
      rcases hx with hx | hx
      · exact hx
      rcases hy with hy | hy
      · exact hy.symm
      have := ltT_trans (ha.1 y hy) (hb.1 x hx)
      rw [ltT_irrefl] at this; cases this
    subst e
    have hh : ∀ s, s ∈ a ↔ s ∈ b := by
      intro s
      have hs := h s
      rw [List.mem_cons, List.mem_cons] at hs
      constructor
      · intro hm
        rcases hs.1 (.inr hm) with e | e
        · exact absurd e.symm (ltT_ne (ha.1 s hm))
        · exact e
      · intro hm
        rcases hs.2 (.inr hm) with e | e
        · exact absurd e.symm (ltT_ne (hb.1 s hm))
        · exact e
    rw [asc_ext ha.2 hb.2 hh]

/-- two ascending lists merged, with which of them has each: 1 the first alone, 2 the second alone, 4 both; n is as many steps as may be taken -/
def mrgF : Nat → List ByteArray → List ByteArray → List (ByteArray × Nat)
  | 0, _, _ => []
  | _ + 1, [], [] => []
  | n + 1, x :: a, [] => (x, 1) :: mrgF n a []
  | n + 1, [], y :: b => (y, 2) :: mrgF n [] b
  | n + 1, x :: a, y :: b => if ltT x y = true then (x, 1) :: mrgF n a (y :: b) else if ltT y x = true then (y, 2) :: mrgF n (x :: a) b else (x, 4) :: mrgF n a b
def mrg (a b : List ByteArray) : List (ByteArray × Nat) := mrgF (a.length + b.length) a b
theorem mrgF_more : ∀ (n m : Nat) (a b : List ByteArray), a.length + b.length ≤ n → a.length + b.length ≤ m → mrgF n a b = mrgF m a b
  | 0, 0, _, _, _, _ => rfl
  | 0, _ + 1, [], [], _, _ => rfl
  | 0, _ + 1, _ :: _, _, h, _ => by simp at h
  | 0, _ + 1, [], _ :: _, h, _ => by simp at h
  | _ + 1, 0, [], [], _, _ => rfl
  | _ + 1, 0, _ :: _, _, _, h => by simp at h
  | _ + 1, 0, [], _ :: _, _, h => by simp at h
  | _ + 1, _ + 1, [], [], _, _ => rfl
  | n + 1, m + 1, x :: a, [], h1, h2 => by
    rw [mrgF, mrgF, mrgF_more n m a [] (by simp at h1 ⊢; omega) (by simp at h2 ⊢; omega)]
  | n + 1, m + 1, [], y :: b, h1, h2 => by
    rw [mrgF, mrgF, mrgF_more n m [] b (by simp at h1 ⊢; omega) (by simp at h2 ⊢; omega)]
  | n + 1, m + 1, x :: a, y :: b, h1, h2 => by
    simp only [List.length_cons] at h1 h2
    rw [mrgF, mrgF, mrgF_more n m a (y :: b) (by simp only [List.length_cons]; omega) (by simp only [List.length_cons]; omega), mrgF_more n m (x :: a) b (by simp only [List.length_cons]; omega) (by simp only [List.length_cons]; omega), mrgF_more n m a b (by omega) (by omega)]
theorem mrg_nil : mrg [] [] = [] := rfl
theorem mrg_left (x : ByteArray) (a : List ByteArray) : mrg (x :: a) [] = (x, 1) :: mrg a [] := by
  unfold mrg; rw [show (x :: a).length + ([] : List ByteArray).length = (a.length + ([] : List ByteArray).length) + 1 by simp, mrgF]
theorem mrg_right (y : ByteArray) (b : List ByteArray) : mrg [] (y :: b) = (y, 2) :: mrg [] b := by
  unfold mrg; rw [show ([] : List ByteArray).length + (y :: b).length = (([] : List ByteArray).length + b.length) + 1 by simp, mrgF]
theorem mrg_both (x y : ByteArray) (a b : List ByteArray) : mrg (x :: a) (y :: b) = if ltT x y = true then (x, 1) :: mrg a (y :: b) else if ltT y x = true then (y, 2) :: mrg (x :: a) b else (x, 4) :: mrg a b := by
  unfold mrg
  rw [show (x :: a).length + (y :: b).length = (a.length + b.length + 1) + 1 by simp; omega, mrgF]
  rw [mrgF_more (a.length + b.length + 1) (a.length + (y :: b).length) a (y :: b) (by simp; omega) (Nat.le_refl _), mrgF_more (a.length + b.length + 1) ((x :: a).length + b.length) (x :: a) b (by simp; omega) (Nat.le_refl _), mrgF_more (a.length + b.length + 1) (a.length + b.length) a b (by omega) (Nat.le_refl _)]

theorem mrg_memF : ∀ (n : Nat) (a b : List ByteArray), a.length + b.length ≤ n → Asc a → Asc b → ∀ s i, (s, i) ∈ mrg a b ↔ (i = 1 ∧ s ∈ a ∧ s ∉ b) ∨ (i = 2 ∧ s ∉ a ∧ s ∈ b) ∨ (i = 4 ∧ s ∈ a ∧ s ∈ b)
  | _, [], [], _, _, _, s, i => by simp [mrg_nil]
  | 0, _ :: _, _, hn, _, _, _, _ => by simp at hn
  | 0, [], _ :: _, hn, _, _, _, _ => by simp at hn
  | n + 1, x :: a, [], hn, ha, hb, s, i => by
    rw [mrg_left, List.mem_cons, mrg_memF n a [] (by simp at hn ⊢; omega) (List.pairwise_cons.1 ha).2 hb s i]
    simp only [Prod.mk.injEq, List.mem_cons, List.not_mem_nil, not_false_eq_true, and_true, and_false, or_false]
    constructor
    · rintro (⟨h1, h2⟩ | ⟨h1, h2⟩)
      · exact ⟨h2, .inl h1⟩
      · exact ⟨h1, .inr h2⟩
    · rintro ⟨h1, h2 | h2⟩
      · exact .inl ⟨h2, h1⟩
      · exact .inr ⟨h1, h2⟩
  | n + 1, [], y :: b, hn, ha, hb, s, i => by
    rw [mrg_right, List.mem_cons, mrg_memF n [] b (by simp at hn ⊢; omega) ha (List.pairwise_cons.1 hb).2 s i]
    simp only [Prod.mk.injEq, List.mem_cons, List.not_mem_nil, not_false_eq_true, true_and, false_and, and_false, or_false, false_or]
    constructor
    · rintro (⟨h1, h2⟩ | ⟨h1, h2⟩)
      · exact ⟨h2, .inl h1⟩
      · exact ⟨h1, .inr h2⟩
    · rintro ⟨h1, h2 | h2⟩
      · exact .inl ⟨h2, h1⟩
      · exact .inr ⟨h1, h2⟩
  | n + 1, x :: a, y :: b, hn, ha, hb, s, i => by
    have ha' := List.pairwise_cons.1 ha
    have hb' := List.pairwise_cons.1 hb
    rw [mrg_both]
    by_cases h1 : ltT x y = true
    · rw [if_pos h1, List.mem_cons, mrg_memF n a (y :: b) (by simp at hn ⊢; omega) ha'.2 hb s i]
      have hxb : x ∉ y :: b := by
        intro hm; rw [List.mem_cons] at hm
        rcases hm with e | hm
        · exact ltT_ne h1 e
        · exact ltT_ne (ltT_trans h1 (hb'.1 x hm)) rfl
      have hxa : x ∉ a := fun hm => ltT_ne (ha'.1 x hm) rfl
      by_cases e : s = x
      · subst e; simp only [Prod.mk.injEq, List.mem_cons, true_and, true_or]; simp only [List.mem_cons] at hxb; simp [hxa, hxb]
      · simp [e]
    · rw [if_neg h1]
      by_cases h2 : ltT y x = true
      · rw [if_pos h2, List.mem_cons, mrg_memF n (x :: a) b (by simp at hn ⊢; omega) ha hb'.2 s i]
        have hya : y ∉ x :: a := by
          intro hm; rw [List.mem_cons] at hm
          rcases hm with e | hm
          · exact ltT_ne h2 e
          · exact ltT_ne (ltT_trans h2 (ha'.1 y hm)) rfl
        have hyb : y ∉ b := fun hm => ltT_ne (hb'.1 y hm) rfl
        by_cases e : s = y
        · subst e; simp only [List.mem_cons] at hya; simp [hya, hyb]
        · simp [e]
      · rw [if_neg h2, List.mem_cons, mrg_memF n a b (by simp at hn ⊢; omega) ha'.2 hb'.2 s i]
        have e : x = y := ltT_tri (by simpa using h1) (by simpa using h2)
        subst e
        have hxa : x ∉ a := fun hm => ltT_ne (ha'.1 x hm) rfl
        have hxb : x ∉ b := fun hm => ltT_ne (hb'.1 x hm) rfl
        by_cases e : s = x
        · subst e; simp [hxa, hxb]
        · simp [e]
theorem mrg_mem (a b : List ByteArray) (ha : Asc a) (hb : Asc b) (s : ByteArray) (i : Nat) : (s, i) ∈ mrg a b ↔ (i = 1 ∧ s ∈ a ∧ s ∉ b) ∨ (i = 2 ∧ s ∉ a ∧ s ∈ b) ∨ (i = 4 ∧ s ∈ a ∧ s ∈ b) := mrg_memF _ a b (Nat.le_refl _) ha hb s i

theorem mrg_ascF : ∀ (n : Nat) (a b : List ByteArray), a.length + b.length ≤ n → Asc a → Asc b → Asc ((mrg a b).map (·.1))
  | _, [], [], _, _, _ => by simp [mrg_nil]
  | 0, _ :: _, _, hn, _, _ => by simp at hn
  | 0, [], _ :: _, hn, _, _ => by simp at hn
  | n + 1, x :: a, [], hn, ha, hb => by
    have ha' := List.pairwise_cons.1 ha
    rw [mrg_left, List.map_cons, Asc, List.pairwise_cons]
    refine ⟨fun s hs => ?_, mrg_ascF n a [] (by simp at hn ⊢; omega) ha'.2 hb⟩
    obtain ⟨p, hp, rfl⟩ := List.mem_map.1 hs
    have := (mrg_mem a [] ha'.2 hb p.1 p.2).1 hp
    simp only [List.not_mem_nil, and_false, or_false] at this
    exact ha'.1 _ this.2.1
  | n + 1, [], y :: b, hn, ha, hb => by
    have hb' := List.pairwise_cons.1 hb
    rw [mrg_right, List.map_cons, Asc, List.pairwise_cons]
    refine ⟨fun s hs => ?_, mrg_ascF n [] b (by simp at hn ⊢; omega) ha hb'.2⟩
    obtain ⟨p, hp, rfl⟩ := List.mem_map.1 hs
    have := (mrg_mem [] b ha hb'.2 p.1 p.2).1 hp
    simp only [List.not_mem_nil, false_and, and_false, false_or, or_false] at this
    exact hb'.1 _ this.2.2
  | n + 1, x :: a, y :: b, hn, ha, hb => by
    have ha' := List.pairwise_cons.1 ha
    have hb' := List.pairwise_cons.1 hb
    rw [mrg_both]
    by_cases h1 : ltT x y = true
    · rw [if_pos h1, List.map_cons, Asc, List.pairwise_cons]
      refine ⟨fun s hs => ?_, mrg_ascF n a (y :: b) (by simp at hn ⊢; omega) ha'.2 hb⟩
      obtain ⟨p, hp, rfl⟩ := List.mem_map.1 hs
      have hm : p.1 ∈ a ∨ p.1 ∈ y :: b := by
        rcases (mrg_mem a (y :: b) ha'.2 hb p.1 p.2).1 hp with h | h | h
        · exact .inl h.2.1
        · exact .inr h.2.2
        · exact .inl h.2.1
      rcases hm with h | h
      · exact ha'.1 _ h
      · rcases List.mem_cons.1 h with e | h
        · show ltT x p.1 = true; rw [e]; exact h1
        · exact ltT_trans h1 (hb'.1 _ h)
    · rw [if_neg h1]
      by_cases h2 : ltT y x = true
      · rw [if_pos h2, List.map_cons, Asc, List.pairwise_cons]
        refine ⟨fun s hs => ?_, mrg_ascF n (x :: a) b (by simp at hn ⊢; omega) ha hb'.2⟩
        obtain ⟨p, hp, rfl⟩ := List.mem_map.1 hs
        have hm : p.1 ∈ x :: a ∨ p.1 ∈ b := by
          rcases (mrg_mem (x :: a) b ha hb'.2 p.1 p.2).1 hp with h | h | h
          · exact .inl h.2.1
          · exact .inr h.2.2
          · exact .inl h.2.1
        rcases hm with h | h
        · rcases List.mem_cons.1 h with e | h
          · show ltT y p.1 = true; rw [e]; exact h2
          · exact ltT_trans h2 (ha'.1 _ h)
        · exact hb'.1 _ h
      · rw [if_neg h2, List.map_cons, Asc, List.pairwise_cons]
        have e : x = y := ltT_tri (by simpa using h1) (by simpa using h2)
        subst e
        refine ⟨fun s hs => ?_, mrg_ascF n a b (by simp at hn ⊢; omega) ha'.2 hb'.2⟩
        obtain ⟨p, hp, rfl⟩ := List.mem_map.1 hs
        rcases (mrg_mem a b ha'.2 hb'.2 p.1 p.2).1 hp with h | h | h
        · exact ha'.1 _ h.2.1
        · exact hb'.1 _ h.2.2
        · exact ha'.1 _ h.2.1
theorem mrg_asc (a b : List ByteArray) (ha : Asc a) (hb : Asc b) : Asc ((mrg a b).map (·.1)) := mrg_ascF _ a b (Nat.le_refl _) ha hb

/-- the texts whose mark is among the wanted -/
def pickM (a b : List ByteArray) (m : Nat) : List ByteArray := ((mrg a b).filter (fun p => decide (p.2 &&& m ≠ 0))).map (·.1)
theorem pickM_asc {a b : List ByteArray} (ha : Asc a) (hb : Asc b) (m : Nat) : Asc (pickM a b m) :=
  List.Pairwise.sublist ((List.filter_sublist).map _) (mrg_asc a b ha hb)
theorem pickM_mem {a b : List ByteArray} (ha : Asc a) (hb : Asc b) (m : Nat) (s : ByteArray) : s ∈ pickM a b m ↔ (1 &&& m ≠ 0 ∧ s ∈ a ∧ s ∉ b) ∨ (2 &&& m ≠ 0 ∧ s ∉ a ∧ s ∈ b) ∨ (4 &&& m ≠ 0 ∧ s ∈ a ∧ s ∈ b) := by
  unfold pickM
  constructor
  · intro h
    obtain ⟨p, hp, rfl⟩ := List.mem_map.1 h
    obtain ⟨hp1, hp2⟩ := List.mem_filter.1 hp
    have hp2 : p.2 &&& m ≠ 0 := by simpa using hp2
    rcases (mrg_mem a b ha hb p.1 p.2).1 hp1 with ⟨e, h⟩ | ⟨e, h⟩ | ⟨e, h⟩
    · rw [e] at hp2; exact .inl ⟨hp2, h⟩
    · rw [e] at hp2; exact .inr (.inl ⟨hp2, h⟩)
    · rw [e] at hp2; exact .inr (.inr ⟨hp2, h⟩)
  · intro h
    rcases h with ⟨e, h⟩ | ⟨e, h⟩ | ⟨e, h⟩
    · exact List.mem_map.2 ⟨(s, 1), List.mem_filter.2 ⟨(mrg_mem a b ha hb s 1).2 (.inl ⟨rfl, h⟩), by simpa using e⟩, rfl⟩
    · exact List.mem_map.2 ⟨(s, 2), List.mem_filter.2 ⟨(mrg_mem a b ha hb s 2).2 (.inr (.inl ⟨rfl, h⟩)), by simpa using e⟩, rfl⟩
    · exact List.mem_map.2 ⟨(s, 4), List.mem_filter.2 ⟨(mrg_mem a b ha hb s 4).2 (.inr (.inr ⟨rfl, h⟩)), by simpa using e⟩, rfl⟩

/-- the model's: what the first has that the second has, has not -/
def hasM (b : List ByteArray) (s : ByteArray) : Bool := b.any (fun x => decide (x = s))
theorem hasM_iff {b : List ByteArray} {s : ByteArray} : hasM b s = true ↔ s ∈ b := by
  unfold hasM; rw [List.any_eq_true]; constructor
  · rintro ⟨x, hx, e⟩; have : x = s := by simpa using e
    rw [← this]; exact hx
  · intro h; exact ⟨s, h, by simp⟩
theorem hasM_not {b : List ByteArray} {s : ByteArray} : (!hasM b s) = true ↔ s ∉ b := by rw [← hasM_iff]; simp
def bothM (a b : List ByteArray) : List ByteArray := a.filter (fun s => hasM b s)
def lessM (a b : List ByteArray) : List ByteArray := a.filter (fun s => !hasM b s)
theorem filt_asc {a : List ByteArray} (ha : Asc a) (f : ByteArray → Bool) : Asc (a.filter f) := List.Pairwise.sublist List.filter_sublist ha
theorem pickM_both {a b : List ByteArray} (ha : Asc a) (hb : Asc b) : pickM a b 4 = bothM a b := by
  refine asc_ext (pickM_asc ha hb 4) (filt_asc ha _) fun s => ?_
  rw [pickM_mem ha hb, bothM, List.mem_filter, hasM_iff]; simp
theorem pickM_less {a b : List ByteArray} (ha : Asc a) (hb : Asc b) : pickM a b 1 = lessM a b := by
  refine asc_ext (pickM_asc ha hb 1) (filt_asc ha _) fun s => ?_
  rw [pickM_mem ha hb, lessM, List.mem_filter, hasM_not]; simp
/-- a text put among others, ascending, once -/
def putM : List ByteArray → ByteArray → List ByteArray
  | [], s => [s]
  | x :: l, s => if ltT x s = true then x :: putM l s else if x = s then x :: l else s :: x :: l
theorem putM_mem (s t : ByteArray) : ∀ (l : List ByteArray), t ∈ putM l s ↔ t ∈ l ∨ t = s
  | [] => by simp [putM]
  | x :: l => by
    unfold putM; split
    · rw [List.mem_cons, putM_mem s t l, List.mem_cons, or_assoc]
    · split
      · next h => rw [← h]; simp only [List.mem_cons]; constructor
                  · intro h; exact .inl h
                  · rintro (h | h); exact h; exact .inl h
      · simp only [List.mem_cons]; constructor
        · rintro (h | h); exact .inr h; exact .inl h
        · rintro (h | h); exact .inr h; exact .inl h
theorem putM_asc (s : ByteArray) : ∀ {l : List ByteArray}, Asc l → Asc (putM l s)
  | [], _ => by simp [putM]
  | x :: l, h => by
    have h' := List.pairwise_cons.1 h
    unfold putM; split
    · next hx =>
      rw [Asc, List.pairwise_cons]
      refine ⟨fun t ht => ?_, putM_asc s h'.2⟩
      rcases (putM_mem s t l).1 ht with ht | ht
      · exact h'.1 t ht
      · rw [ht]; exact hx
    · next hx =>
      split
      · exact h
      · next hne =>
        have hsx : ltT s x = true := by
          cases e : ltT s x with
          | true => rfl
          | false => exact absurd (ltT_tri (by simpa using hx) e) hne
        rw [Asc, List.pairwise_cons]
        refine ⟨fun t ht => ?_, h⟩
        rcases List.mem_cons.1 ht with ht | ht
        · rw [ht]; exact hsx
        · exact ltT_trans hsx (h'.1 t ht)
def putsM (a b : List ByteArray) : List ByteArray := b.foldl putM a
theorem putsM_asc : ∀ (b : List ByteArray) {a : List ByteArray}, Asc a → Asc (putsM a b)
  | [], _, h => h
  | y :: b, _, h => putsM_asc b (putM_asc y h)
theorem putsM_mem (t : ByteArray) : ∀ (b a : List ByteArray), t ∈ putsM a b ↔ t ∈ a ∨ t ∈ b
  | [], a => by simp [putsM]
  | y :: b, a => by
    have := putsM_mem t b (putM a y)
    unfold putsM at *
    rw [List.foldl_cons, this, putM_mem, List.mem_cons, or_assoc]
theorem pickM_any {a b : List ByteArray} (ha : Asc a) (hb : Asc b) : pickM a b 7 = putsM a b := by
  refine asc_ext (pickM_asc ha hb 7) (putsM_asc b ha) fun s => ?_
  rw [pickM_mem ha hb, putsM_mem]
  by_cases h1 : s ∈ a <;> by_cases h2 : s ∈ b <;> simp [h1, h2]
/-- what the program makes of texts: any ascending list of the same texts serves -/
theorem pickM_any_of {a b c : List ByteArray} (ha : Asc a) (hc : Asc c) (h : ∀ s, s ∈ c ↔ s ∈ b) : pickM a c 7 = putsM a b := by
  refine asc_ext (pickM_asc ha hc 7) (putsM_asc b ha) fun s => ?_
  rw [pickM_mem ha hc, putsM_mem, h]
  by_cases h1 : s ∈ a <;> by_cases h2 : s ∈ b <;> simp [h1, h2]
theorem pickM_less_of {a b c : List ByteArray} (ha : Asc a) (hc : Asc c) (h : ∀ s, s ∈ c ↔ s ∈ b) : pickM a c 1 = lessM a b := by
  refine asc_ext (pickM_asc ha hc 1) (filt_asc ha _) fun s => ?_
  rw [pickM_mem ha hc, lessM, List.mem_filter, hasM_not, h]; simp
end Go.Proofs.Ytndegickekjkjaa
