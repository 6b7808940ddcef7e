/- Rows of structs: as made; how much is left of a purse behind them. Plain facts: no Go text here. -/
import Derived.Test.YtbkllceceaedpaaRw
import Derived.OwnWalk
namespace Go.Proofs.Ytbkllceceaedpaa
open Go.RowKit

section
variable {α : Type} {c : α → List Value} {sz : Nat}

theorem made_rows (hsz : ∀ x, (c x).length = sz) (d : α) (n : Nat) : (madeCells (c d).toArray (n * sz)).toList = (List.replicate n d).flatMap c := by
  apply List.ext_getElem?
  intro i
  by_cases hi : i < n * sz
  · have hz : 0 < sz := by
      rcases Nat.eq_zero_or_pos sz with h | h
      · rw [h, Nat.mul_zero] at hi; omega
      · exact h
    have hk : i / sz < n := (Nat.div_lt_iff_lt_mul hz).2 hi
    have hm : i % sz < sz := Nat.mod_lt _ hz
    have h1 : (List.replicate n d)[i / sz]? = some d := by rw [List.getElem?_replicate, if_pos hk]
    have h2 : (c d)[i % sz]? = some ((c d)[i % sz]'(by rw [hsz]; exact hm)) := List.getElem?_eq_getElem _
    have h3 := flat_get hsz (List.replicate n d) (i / sz) d h1 (i % sz) _ h2
    rw [show i / sz * sz + i % sz = i by rw [Nat.mul_comm]; exact Nat.div_add_mod i sz] at h3
    rw [h3]
    simp [madeCells, hi, hsz, Nat.mod_lt, hz]
  · rw [List.getElem?_eq_none (by simp [madeCells]; omega), List.getElem?_eq_none (by rw [flat_len hsz]; simp; omega)]

/-- how much is left of a purse behind a list of things that weigh something; -1 where it is not enough -/
def szWTo (wt : α → Int) (l : List α) (left : Int) (k : Nat) : Int := left - l.length - ((l.take k).map wt).sum
def szW (wt : α → Int) (l : List α) (left : Int) : Int := if szWTo wt l left l.length < 0 then -1 else szWTo wt l left l.length
def szOne (wt : α → Int) (x : α) (left : Int) : Int := if left - wt x < 0 then -1 else left - wt x
variable {wt : α → Int}
theorem szWTo_succ {l : List α} {left : Int} {k : Nat} {x : α} (h : l[k]? = some x) : szWTo wt l left (k + 1) = szWTo wt l left k - wt x := by
  obtain ⟨hk, rfl⟩ := List.getElem?_eq_some_iff.1 h
  unfold szWTo
  rw [List.take_succ_eq_append_getElem hk, List.map_append, List.sum_append]
  simp; omega
theorem szWTo_mono (hw : ∀ x, 0 ≤ wt x) {l : List α} {left : Int} {k : Nat} (h : k ≤ l.length) : szWTo wt l left l.length ≤ szWTo wt l left k := by
  obtain ⟨d, hd⟩ : ∃ d, l.length = k + d := ⟨l.length - k, by omega⟩
  rw [hd]
  clear h
  induction d generalizing k with
  | zero => exact Int.le_refl _
  | succ d ih =>
    have h1 := szWTo_succ (wt := wt) (left := left) (List.getElem?_eq_getElem (show k < l.length by omega))
    have h2 := ih (k := k + 1) (by omega)
    have e : k + 1 + d = k + (d + 1) := by omega
    have h3 := hw l[k]
    rw [e] at h2
    omega
theorem szW_neg (hw : ∀ x, 0 ≤ wt x) {l : List α} {left : Int} {k : Nat} (hk : k ≤ l.length) (h : szWTo wt l left k < 0) : szW wt l left = -1 := by
  unfold szW; rw [if_pos]; have := szWTo_mono hw (left := left) hk; omega
theorem szW_len (hw : ∀ x, 0 ≤ wt x) {l : List α} {left : Int} (h : 0 ≤ szW wt l left) : (l.length : Int) ≤ left ∧ szW wt l left ≤ left ∧ ∀ x ∈ l, wt x ≤ left := by
  have h0 : 0 ≤ szWTo wt l left l.length ∧ szW wt l left = szWTo wt l left l.length := by
    unfold szW at h ⊢; split at h
    · omega
    · rename_i hn; exact ⟨by omega, if_neg hn⟩
  have h1 := szWTo_mono hw (l := l) (left := left) (Nat.zero_le _)
  have h2 : szWTo wt l left 0 = left - l.length := by simp [szWTo]
  refine ⟨by omega, by omega, fun x hx => ?_⟩
  obtain ⟨k, hk, rfl⟩ := List.getElem_of_mem hx
  have h3 := szWTo_succ (wt := wt) (left := left) (List.getElem?_eq_getElem hk)
  have h4 := szWTo_mono hw (l := l) (left := left) (k := k + 1) hk
  have h5 : szWTo wt l left k ≤ left - l.length := by
    have : ∀ j, j ≤ l.length → szWTo wt l left j ≤ left - l.length := by
      intro j hj
      induction j with
      | zero => omega
      | succ j ih => have := szWTo_succ (wt := wt) (left := left) (List.getElem?_eq_getElem (show j < l.length by omega)); have := ih (by omega); have := hw l[j]; omega
    exact this k (by omega)
  omega
theorem szW_end {l : List α} {left : Int} {k : Nat} (h : k = l.length) (h0 : 0 ≤ szWTo wt l left k) : szW wt l left = szWTo wt l left k := by
  subst h; unfold szW; rw [if_neg (by omega)]
theorem szOne_neg {x : α} {left : Int} (h : left - wt x < 0) : szOne wt x left = -1 := if_pos h
theorem szOne_pos {x : α} {left : Int} (h : 0 ≤ left - wt x) : szOne wt x left = left - wt x := if_neg (by omega)
theorem szOne_cases {x : α} {left : Int} : (left - wt x < 0 ∧ szOne wt x left = -1) ∨ (0 ≤ left - wt x ∧ szOne wt x left = left - wt x) := by
  rcases Int.lt_or_le (left - wt x) 0 with h | h
  · exact .inl ⟨h, szOne_neg h⟩
  · exact .inr ⟨h, szOne_pos h⟩
end
theorem toList_eq {a b : ByteArray} (h : a.toList = b.toList) : a = b := by
  rw [Lib.toList_data, Lib.toList_data] at h
  cases a; cases b; simp only [ByteArray.mk.injEq]; exact Array.toList_inj.1 h
theorem readsR_at {α : Type} {c : α → List Value} {sz : Nat} {w : World} {b off n cap : Nat} {l : List α} (h : ReadsR c sz w (.slice (some ⟨b, off, none⟩) n cap) l) : ∀ k x, l[k]? = some x → w.rangeAt b (off + k * sz) (c x) := by
  rcases h with ⟨rfl, _⟩ | ⟨_, b', off', cap', hv, _, _, _, hc⟩
  · intro k x hk; simp at hk
  · simp only [Value.slice.injEq, Option.some.injEq, Addr.mk.injEq, and_true] at hv
    obtain ⟨⟨rfl, rfl⟩, _, _⟩ := hv
    exact hc
theorem wrap_id64 {a : Int} (h0 : -1000000000000 ≤ a) (h1 : a ≤ 1000000000000) : IntKind.i64.wrap a = a := by
  unfold IntKind.wrap; simp [IntKind.signed, IntKind.bits]; omega
theorem heap_setRowR {w : World} {g : Nat} {cs old : Array Value} {t : TypeId} {fr : Nat × Nat} (h : w.heap[g]? = some (.cells old t fr)) : (w.setRow g cs).heap[g]? = some (.cells cs t fr) := by
  show (w.heap.modify g _)[g]? = _
  rw [Array.getElem?_modify, if_pos rfl, h]; rfl
theorem below_setRowR {B : Nat} {a w : World} (h : Below B a w) {g : Nat} (hg : B ≤ g) (cs : Array Value) : Below B a (w.setRow g cs) := by
  refine ⟨h.os, h.tape, h.output, ?_, fun k hk => ?_⟩
  · show _ ≤ (w.heap.modify g _).size
    rw [Array.size_modify]; exact h.size
  · show (w.heap.modify g _)[k]? = _
    rw [Array.getElem?_modify, if_neg (by omega)]; exact h.block k hk
theorem set_at {α : Type} {l : List α} {k : Nat} {x y : α} (h : l[k]? = some x) : (l.set k y)[k]? = some y := by
  rw [List.getElem?_set_self (List.getElem?_eq_some_iff.1 h).1]
theorem flat_set2 {α : Type} {c : α → List Value} (hsz : ∀ x, (c x).length = 2) : ∀ (l : List α) (k : Nat) (x y : α) (u0 u1 : Value), l[k]? = some x → c y = [u0, u1] → ((l.flatMap c).set (k * 2) u0).set (k * 2 + 1) u1 = (l.set k y).flatMap c
  | [], k, x, y, _, _, h, _ => by simp at h
  | z :: l, 0, x, y, u0, u1, h, hu => by
    have hz := hsz z
    rw [List.flatMap_cons, List.set_cons_zero, List.flatMap_cons, hu]
    generalize c z = cz at *
    match cz, hz with
    | [a, b], _ => rfl
  | z :: l, k + 1, x, y, u0, u1, h, hu => by
    have h' : l[k]? = some x := by simpa using h
    rw [List.flatMap_cons, List.set_append_right _ _ (by rw [hsz]; omega), List.set_append_right _ _ (by rw [hsz]; omega), hsz, show (k + 1) * 2 - 2 = k * 2 by omega, show (k + 1) * 2 + 1 - 2 = k * 2 + 1 by omega, flat_set2 hsz l k x y u0 u1 h' hu, List.set_cons_succ, List.flatMap_cons]
theorem grown_two {a b c : World} {r : Option Nat} (h : a.grownBy b r) (k : b.grownBy c r) : a.grownBy c r :=
  ⟨k.os.trans h.os, k.tape.trans h.tape, k.output.trans h.output, Nat.le_trans h.size k.size, fun i hi hr => (k.block i (Nat.lt_of_lt_of_le hi h.size) hr).trans (h.block i hi hr)⟩
theorem grown_of_below {a b : World} {r : Option Nat} (h : Below a.heap.size a b) : a.grownBy b r := ⟨h.os, h.tape, h.output, h.size, fun i hi _ => h.block i hi⟩
theorem ownsR_store2 {α : Type} {c : α → List Value} {e : TypeId} (hsz : ∀ x, (c x).length = 2) {w : World} {base g cap : Nat} {l : List α} (h : OwnsR c 2 e w base (.slice (some ⟨g, 0, none⟩) l.length cap) l) (k : Nat) (x y : α) (u0 u1 : Value) (hk : l[k]? = some x) (hu : c y = [u0, u1]) :
    OwnsR c 2 e ((w.setCell ⟨g, k * 2, none⟩ u0).setCell ⟨g, k * 2 + 1, none⟩ u1) base (.slice (some ⟨g, 0, none⟩) l.length cap) (l.set k y) ∧ w.grownBy ((w.setCell ⟨g, k * 2, none⟩ u0).setCell ⟨g, k * 2 + 1, none⟩ u1) (some g) := by
  have h1 := World.ownsRow.stored h (k * 2) u0
  have h2 := World.ownsRow.stored h1.1 (k * 2 + 1) u1
  refine ⟨?_, grown_two h1.2 h2.2⟩
  unfold OwnsR
  rw [List.length_set, ← flat_set2 hsz l k x y u0 u1 hk hu]
  exact h2.1
theorem cellR {α : Type} {c : α → List Value} {sz : Nat} {e : TypeId} (hsz : ∀ x, (c x).length = sz) {w : World} {base g cap : Nat} {l : List α} (h : OwnsR c sz e w base (.slice (some ⟨g, 0, none⟩) l.length cap) l) {k : Nat} {x : α} (hk : l[k]? = some x) (j : Nat) (u : Value) (hu : (c x)[j]? = some u) : w.cell? ⟨g, k * sz + j, none⟩ = some u := by
  have hf := flat_get hsz l k x hk j u hu
  have hlt := (List.getElem?_eq_some_iff.1 hf).1
  rw [flat_len hsz] at hlt
  rw [World.ownsRow.cellAt h _ hlt, hf]
theorem heap_mid (w : World) (A B C : Obj) : (((w.alloc A).alloc B).alloc C).heap[w.heap.size + 1]? = some B := by
  rw [Below.heap_alloc _ _ _ (by simp), heap_alloc2_new]
end Go.Proofs.Ytbkllceceaedpaa
