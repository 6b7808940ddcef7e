/- Rows of so many cells: a row that is stored cell by cell. Plain facts. -/
import Derived.Test.YtbkllceceaedpaaRz
namespace Go.Proofs.Ytbkllceceaedpaa
open Go.RowKit

def setsAt (xs : List Value) (o : Nat) : List Value → List Value
  | [] => xs
  | v :: vs => setsAt (xs.set o v) (o + 1) vs
def putCells (w : World) (g o : Nat) : List Value → World
  | [] => w
  | v :: vs => putCells (w.setCell ⟨g, o, none⟩ v) g (o + 1) vs
theorem setsAt_mid : ∀ (vs a old b : List Value), old.length = vs.length → setsAt (a ++ old ++ b) a.length vs = a ++ vs ++ b
  | [], a, old, b, h => by
    have : old = [] := List.length_eq_zero_iff.1 h
    subst this; rfl
  | v :: vs, a, [], b, h => by simp at h
  | v :: vs, a, x :: old, b, h => by
    have h' : old.length = vs.length := by simpa using h
    have := setsAt_mid vs (a ++ [v]) old b h'
    unfold setsAt
    rw [show (a ++ x :: old ++ b).set a.length v = a ++ [v] ++ old ++ b by
      rw [List.append_assoc, List.set_append_right _ _ (Nat.le_refl _), Nat.sub_self]; simp]
    rw [show a.length + 1 = (a ++ [v]).length by simp, this]
    simp
theorem flat_setN {α : Type} {c : α → List Value} {n : Nat} (hc : ∀ x, (c x).length = n) {l : List α} {k : Nat} {x : α} (y : α) (hk : l[k]? = some x) : setsAt (l.flatMap c) (k * n) (c y) = (l.set k y).flatMap c := by
  obtain ⟨hlt, hx⟩ := List.getElem?_eq_some_iff.1 hk
  have e1 : l = l.take k ++ x :: l.drop (k + 1) := by rw [← hx]; simp
  have e2 : l.set k y = l.take k ++ y :: l.drop (k + 1) := by rw [List.set_eq_take_append_cons_drop, if_pos hlt]
  have hl : ((l.take k).flatMap c).length = k * n := by rw [flat_len hc, List.length_take, Nat.min_eq_left (Nat.le_of_lt hlt)]
  rw [e2, List.flatMap_append, List.flatMap_cons]
  conv => lhs; rw [e1]
  rw [List.flatMap_append, List.flatMap_cons, ← hl, ← List.append_assoc, setsAt_mid _ _ _ _ (by rw [hc, hc]), List.append_assoc]
theorem owns_puts {base : Nat} {e : TypeId} {sz n g cap : Nat} : ∀ (vs : List Value) {w : World} {xs : List Value} (o : Nat), w.ownsRow base e sz (.slice (some ⟨g, 0, none⟩) n cap) n xs → (putCells w g o vs).ownsRow base e sz (.slice (some ⟨g, 0, none⟩) n cap) n (setsAt xs o vs)
  | [], _, _, _, h => h
  | v :: vs, _, _, o, h => owns_puts vs (o + 1) (World.ownsRow.stored h o v).1
theorem rows_stored {α : Type} {c : α → List Value} {n : Nat} {e : TypeId} (hc : ∀ x, (c x).length = n) {w : World} {base g cap : Nat} {l : List α} (h : OwnsR c n e w base (.slice (some ⟨g, 0, none⟩) l.length cap) l) (k : Nat) (x y : α) (hk : l[k]? = some x) :
    OwnsR c n e (putCells w g (k * n) (c y)) base (.slice (some ⟨g, 0, none⟩) l.length cap) (l.set k y) := by
  unfold OwnsR
  rw [List.length_set, ← flat_setN hc y hk]
  exact owns_puts (c y) (k * n) h
theorem below_puts {B : Nat} {a : World} {g : Nat} (hg : B ≤ g) : ∀ (vs : List Value) {w : World} (o : Nat), Below B a w → Below B a (putCells w g o vs)
  | [], _, _, h => h
  | v :: vs, _, o, h => below_puts hg vs (o + 1) (h.setCell hg v)
theorem puts_size {g : Nat} : ∀ (vs : List Value) (w : World) (o : Nat), (putCells w g o vs).heap.size = w.heap.size
  | [], _, _ => rfl
  | v :: vs, w, o => by
    show (putCells (w.setCell ⟨g, o, none⟩ v) g (o + 1) vs).heap.size = _
    rw [puts_size vs]
    show (w.heap.modify g _).size = _
    rw [Array.size_modify]
def setsArr (cs : Array Value) (o : Nat) : List Value → Array Value
  | [] => cs
  | v :: vs => setsArr (cs.setIfInBounds o v) (o + 1) vs
theorem puts_row {B : Nat} {t : TypeId} : ∀ (vs : List Value) {w : World} {cs : Array Value} (o : Nat), w.heap[B]? = some (.cells cs t (0, 0)) → (putCells w B o vs).heap[B]? = some (.cells (setsArr cs o vs) t (0, 0))
  | [], _, _, _, h => h
  | v :: vs, _, cs, o, h => puts_row vs (o + 1) (heap_setCell_same _ B o cs t v h)
theorem rows3 (w : World) (A B C : Obj) : (((w.alloc A).alloc B).alloc C).heap[w.heap.size]? = some A ∧ (((w.alloc A).alloc B).alloc C).heap[w.heap.size + 1]? = some B ∧ (((w.alloc A).alloc B).alloc C).heap[w.heap.size + 2]? = some C := by
  refine ⟨?_, heap_mid w A B C, ?_⟩
  · rw [Below.heap_alloc _ _ _ (by simp; omega), Below.heap_alloc _ _ _ (by simp), heap_alloc_new]
  · have := heap_alloc_new ((w.alloc A).alloc B) C
    simpa using this
theorem cellAt_row {w : World} {B : Nat} {cs : Array Value} {t : TypeId} {fr : Nat × Nat} (h : w.heap[B]? = some (.cells cs t fr)) (o : Nat) : w.cell? ⟨B, o, none⟩ = cs[o]? := cell_of_row _ _ _ _ _ _ h
theorem frozenAt_row {w : World} {B : Nat} {cs : Array Value} {t : TypeId} (h : w.heap[B]? = some (.cells cs t (0, 0))) (o : Nat) : w.frozen? ⟨B, o, none⟩ = false := by simp [World.frozen?, h]
theorem put2_row {w : World} {B : Nat} {x0 x1 : Value} {t : TypeId} (h : w.heap[B]? = some (.cells #[x0, x1] t (0, 0))) (u0 u1 : Value) :
    ((w.setCell ⟨B, 0, none⟩ u0).setCell ⟨B, 1, none⟩ u1).heap[B]? = some (.cells #[u0, u1] t (0, 0)) := by
  rw [heap_setCell_same _ B 1 _ _ _ (heap_setCell_same _ B 0 _ _ _ h)]; rfl
theorem put2_below {B' : Nat} {a w : World} {B : Nat} (hB : Below B' a w) (h : B' ≤ B) (u0 u1 : Value) : Below B' a ((w.setCell ⟨B, 0, none⟩ u0).setCell ⟨B, 1, none⟩ u1) :=
  (hB.setCell h _).setCell h _
theorem put3_row {w : World} {B : Nat} {x0 x1 x2 : Value} {t : TypeId} (h : w.heap[B]? = some (.cells #[x0, x1, x2] t (0, 0))) (u0 u1 u2 : Value) :
    (((w.setCell ⟨B, 0, none⟩ u0).setCell ⟨B, 1, none⟩ u1).setCell ⟨B, 2, none⟩ u2).heap[B]? = some (.cells #[u0, u1, u2] t (0, 0)) := by
  rw [heap_setCell_same _ B 2 _ _ _ (heap_setCell_same _ B 1 _ _ _ (heap_setCell_same _ B 0 _ _ _ h))]; rfl
theorem put3_below {B' : Nat} {a w : World} {B : Nat} (hB : Below B' a w) (h : B' ≤ B) (u0 u1 u2 : Value) : Below B' a (((w.setCell ⟨B, 0, none⟩ u0).setCell ⟨B, 1, none⟩ u1).setCell ⟨B, 2, none⟩ u2) :=
  ((hB.setCell h _).setCell h _).setCell h _
theorem put4_row {w : World} {B : Nat} {x0 x1 x2 x3 : Value} {t : TypeId} (h : w.heap[B]? = some (.cells #[x0, x1, x2, x3] t (0, 0))) (u0 u1 u2 u3 : Value) :
    ((((w.setCell ⟨B, 0, none⟩ u0).setCell ⟨B, 1, none⟩ u1).setCell ⟨B, 2, none⟩ u2).setCell ⟨B, 3, none⟩ u3).heap[B]? = some (.cells #[u0, u1, u2, u3] t (0, 0)) := by
  rw [heap_setCell_same _ B 3 _ _ _ (heap_setCell_same _ B 2 _ _ _ (heap_setCell_same _ B 1 _ _ _ (heap_setCell_same _ B 0 _ _ _ h)))]; rfl
theorem put4_below {B' : Nat} {a w : World} {B : Nat} (hB : Below B' a w) (h : B' ≤ B) (u0 u1 u2 u3 : Value) : Below B' a ((((w.setCell ⟨B, 0, none⟩ u0).setCell ⟨B, 1, none⟩ u1).setCell ⟨B, 2, none⟩ u2).setCell ⟨B, 3, none⟩ u3) :=
  (((hB.setCell h _).setCell h _).setCell h _).setCell h _
theorem put5_row {w : World} {B : Nat} {x0 x1 x2 x3 x4 : Value} {t : TypeId} (h : w.heap[B]? = some (.cells #[x0, x1, x2, x3, x4] t (0, 0))) (u0 u1 u2 u3 u4 : Value) :
    (((((w.setCell ⟨B, 0, none⟩ u0).setCell ⟨B, 1, none⟩ u1).setCell ⟨B, 2, none⟩ u2).setCell ⟨B, 3, none⟩ u3).setCell ⟨B, 4, none⟩ u4).heap[B]? = some (.cells #[u0, u1, u2, u3, u4] t (0, 0)) := by
  rw [heap_setCell_same _ B 4 _ _ _ (heap_setCell_same _ B 3 _ _ _ (heap_setCell_same _ B 2 _ _ _ (heap_setCell_same _ B 1 _ _ _ (heap_setCell_same _ B 0 _ _ _ h))))]; rfl
theorem put5_below {B' : Nat} {a w : World} {B : Nat} (hB : Below B' a w) (h : B' ≤ B) (u0 u1 u2 u3 u4 : Value) : Below B' a (((((w.setCell ⟨B, 0, none⟩ u0).setCell ⟨B, 1, none⟩ u1).setCell ⟨B, 2, none⟩ u2).setCell ⟨B, 3, none⟩ u3).setCell ⟨B, 4, none⟩ u4) :=
  ((((hB.setCell h _).setCell h _).setCell h _).setCell h _).setCell h _
theorem set_size (w : World) (a : Addr) (u : Value) : (w.setCell a u).heap.size = w.heap.size := by
  show (w.heap.modify a.block _).size = _
  rw [Array.size_modify]
theorem set_grown (w : World) (a : Addr) (u : Value) : w.grownBy (w.setCell a u) (some a.block) :=
  ⟨rfl, rfl, rfl, ((Below.refl 0 w).setCell (p := a) (Nat.zero_le _) u).size, fun k hk hne => Below.heap_setCell w a u k (fun e => hne (by rw [e]))⟩
theorem ownR_set {α : Type} {c : α → List Value} {sz : Nat} {t : TypeId} {w : World} {lo hi : Nat} {v : Value} {l : List α} (h : OwnR c sz t w lo hi v l) (a : Addr) (u : Value) (ha : a.block < lo) : OwnR c sz t (w.setCell a u) lo hi v l := by
  refine ⟨World.ownsRow.kept h.1 (set_grown w a u) ?_, h.2⟩
  cases hv : v.ownBlock with
  | none => exact .inl rfl
  | some k =>
    right
    intro e
    have := (h.1.lt k hv).1
    have : k = a.block := by simpa using e
    omega
theorem ownR_lower {α : Type} {c : α → List Value} {sz : Nat} {t : TypeId} {w : World} {lo lo' hi hi' : Nat} {v : Value} {l : List α} (h : OwnR c sz t w lo hi v l) (h1 : lo' ≤ lo) (h2 : hi ≤ hi') : OwnR c sz t w lo' hi' v l :=
  ⟨ownsR_base h.1 h1, fun k hk => Nat.lt_of_lt_of_le (h.2 k hk) h2⟩
theorem put2_own {α : Type} {c : α → List Value} {sz : Nat} {t : TypeId} {w : World} {lo hi B : Nat} {v : Value} {l : List α} (h : OwnR c sz t w lo hi v l) (hB : B < lo) (u0 u1 : Value) : OwnR c sz t ((w.setCell ⟨B, 0, none⟩ u0).setCell ⟨B, 1, none⟩ u1) lo hi v l := ownR_set (ownR_set h ⟨B, 0, none⟩ _ hB) ⟨B, 1, none⟩ _ hB
theorem put2_size (w : World) (B : Nat) (u0 u1 : Value) : ((w.setCell ⟨B, 0, none⟩ u0).setCell ⟨B, 1, none⟩ u1).heap.size = w.heap.size := by simp only [set_size]
theorem put3_own {α : Type} {c : α → List Value} {sz : Nat} {t : TypeId} {w : World} {lo hi B : Nat} {v : Value} {l : List α} (h : OwnR c sz t w lo hi v l) (hB : B < lo) (u0 u1 u2 : Value) : OwnR c sz t (((w.setCell ⟨B, 0, none⟩ u0).setCell ⟨B, 1, none⟩ u1).setCell ⟨B, 2, none⟩ u2) lo hi v l := ownR_set (ownR_set (ownR_set h ⟨B, 0, none⟩ _ hB) ⟨B, 1, none⟩ _ hB) ⟨B, 2, none⟩ _ hB
theorem put3_size (w : World) (B : Nat) (u0 u1 u2 : Value) : (((w.setCell ⟨B, 0, none⟩ u0).setCell ⟨B, 1, none⟩ u1).setCell ⟨B, 2, none⟩ u2).heap.size = w.heap.size := by simp only [set_size]
theorem put4_own {α : Type} {c : α → List Value} {sz : Nat} {t : TypeId} {w : World} {lo hi B : Nat} {v : Value} {l : List α} (h : OwnR c sz t w lo hi v l) (hB : B < lo) (u0 u1 u2 u3 : Value) : OwnR c sz t ((((w.setCell ⟨B, 0, none⟩ u0).setCell ⟨B, 1, none⟩ u1).setCell ⟨B, 2, none⟩ u2).setCell ⟨B, 3, none⟩ u3) lo hi v l := ownR_set (ownR_set (ownR_set (ownR_set h ⟨B, 0, none⟩ _ hB) ⟨B, 1, none⟩ _ hB) ⟨B, 2, none⟩ _ hB) ⟨B, 3, none⟩ _ hB
theorem put4_size (w : World) (B : Nat) (u0 u1 u2 u3 : Value) : ((((w.setCell ⟨B, 0, none⟩ u0).setCell ⟨B, 1, none⟩ u1).setCell ⟨B, 2, none⟩ u2).setCell ⟨B, 3, none⟩ u3).heap.size = w.heap.size := by simp only [set_size]
theorem put5_own {α : Type} {c : α → List Value} {sz : Nat} {t : TypeId} {w : World} {lo hi B : Nat} {v : Value} {l : List α} (h : OwnR c sz t w lo hi v l) (hB : B < lo) (u0 u1 u2 u3 u4 : Value) : OwnR c sz t (((((w.setCell ⟨B, 0, none⟩ u0).setCell ⟨B, 1, none⟩ u1).setCell ⟨B, 2, none⟩ u2).setCell ⟨B, 3, none⟩ u3).setCell ⟨B, 4, none⟩ u4) lo hi v l := ownR_set (ownR_set (ownR_set (ownR_set (ownR_set h ⟨B, 0, none⟩ _ hB) ⟨B, 1, none⟩ _ hB) ⟨B, 2, none⟩ _ hB) ⟨B, 3, none⟩ _ hB) ⟨B, 4, none⟩ _ hB
theorem put5_size (w : World) (B : Nat) (u0 u1 u2 u3 u4 : Value) : (((((w.setCell ⟨B, 0, none⟩ u0).setCell ⟨B, 1, none⟩ u1).setCell ⟨B, 2, none⟩ u2).setCell ⟨B, 3, none⟩ u3).setCell ⟨B, 4, none⟩ u4).heap.size = w.heap.size := by simp only [set_size]
/-- one behind the other, each in a stretch of its own -/
def Chain {α : Type} (P : Nat → Nat → α → Prop) : Nat → Nat → List α → Prop
  | lo, hi, [] => lo ≤ hi
  | lo, hi, x :: l => ∃ m, lo ≤ m ∧ P lo m x ∧ Chain P m hi l
theorem chain_le {α : Type} {P : Nat → Nat → α → Prop} : ∀ {l : List α} {lo hi : Nat}, Chain P lo hi l → lo ≤ hi
  | [], _, _, h => h
  | _ :: _, _, _, ⟨_, h1, _, h3⟩ => Nat.le_trans h1 (chain_le h3)
theorem chain_map {α : Type} {P Q : Nat → Nat → α → Prop} {B : Nat} (hP : ∀ (lo hi : Nat) (x : α), B ≤ lo → P lo hi x → Q lo hi x) : ∀ {l : List α} {lo hi : Nat}, B ≤ lo → Chain P lo hi l → Chain Q lo hi l
  | [], _, _, _, h => h
  | _ :: _, _, _, hB, ⟨m, h1, h2, h3⟩ => ⟨m, h1, hP _ _ _ hB h2, chain_map hP (Nat.le_trans hB h1) h3⟩
theorem chain_mem {α : Type} {P : Nat → Nat → α → Prop} {R : α → Prop} (hP : ∀ (lo hi : Nat) (x : α), P lo hi x → R x) : ∀ {l : List α} {lo hi : Nat}, Chain P lo hi l → ∀ x ∈ l, R x
  | [], _, _, _, _, hx => by cases hx
  | y :: l, _, _, ⟨m, _, h2, h3⟩, x, hx => by
    rcases List.mem_cons.1 hx with rfl | hx
    · exact hP _ _ _ h2
    · exact chain_mem hP h3 x hx
theorem chain_snoc {α : Type} {P : Nat → Nat → α → Prop} (hP : ∀ (lo lo' hi : Nat) (x : α), lo' ≤ lo → P lo hi x → P lo' hi x) : ∀ {l : List α} {lo mid hi : Nat} {x : α}, Chain P lo mid l → P mid hi x → mid ≤ hi → Chain P lo hi (l ++ [x])
  | [], _, _, hi, _, h, hx, hm => ⟨hi, Nat.le_trans h hm, hP _ _ _ _ h hx, Nat.le_refl _⟩
  | _ :: _, _, _, _, _, ⟨m, h1, h2, h3⟩, hx, hm => ⟨m, h1, h2, chain_snoc hP h3 hx hm⟩
theorem chain_top {α : Type} {P : Nat → Nat → α → Prop} : ∀ {l : List α} {lo hi hi' : Nat}, hi ≤ hi' → Chain P lo hi l → Chain P lo hi' l
  | [], _, _, _, h, hc => Nat.le_trans hc h
  | _ :: _, _, _, _, h, ⟨m, h1, h2, h3⟩ => ⟨m, h1, h2, chain_top h h3⟩
/-- the first rows are ys, the rest nothing -/
def partOf {α : Type} (z : α) (n : Nat) (ys : List α) : List α := ys ++ List.replicate (n - ys.length) z
theorem partOf_len {α : Type} {z : α} {n : Nat} {ys : List α} (h : ys.length ≤ n) : (partOf z n ys).length = n := by simp [partOf]; omega
theorem partOf_at {α : Type} {z : α} {n : Nat} {ys : List α} (h : ys.length < n) : (partOf z n ys)[ys.length]? = some z := by
  unfold partOf; rw [List.getElem?_append_right (Nat.le_refl _), List.getElem?_replicate, if_pos (by omega)]
theorem partOf_set {α : Type} {z : α} {n : Nat} {ys : List α} {x : α} (h : ys.length < n) : (partOf z n ys).set ys.length x = partOf z n (ys ++ [x]) := by
  unfold partOf
  have e : n - ys.length = (n - (ys ++ [x]).length) + 1 := by simp; omega
  rw [List.set_append_right _ _ (Nat.le_refl _), e, List.replicate_succ, Nat.sub_self, List.set_cons_zero, List.append_assoc]
  rfl
theorem partOf_all {α : Type} {z : α} {n : Nat} {ys : List α} (h : ys.length = n) : partOf z n ys = ys := by simp [partOf, h]
theorem partOf_none {α : Type} (z : α) (n : Nat) : partOf z n [] = List.replicate n z := by simp [partOf]
end Go.Proofs.Ytbkllceceaedpaa
