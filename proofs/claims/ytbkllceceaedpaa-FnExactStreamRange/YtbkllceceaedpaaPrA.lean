/- The laws' own helpers over slices of Pair: how much is left of a purse; a copy in new memory; are two alike. -/
import Derived.Test.YtbkllceceaedpaaRows
import Derived.Test.YtbkllceceaedpaaRz
import Derived.Test.YtbkllceceaedpaaStrs
import Derived.Deep.RegionHeld3
namespace Go.Proofs.Ytbkllceceaedpaa
open Go.RowKit

def prC (x : ByteArray × ByteArray) : List Value := [.string x.1, .string x.2]
def prZ : ByteArray × ByteArray := (ByteArray.empty, ByteArray.empty)
def prW (x : ByteArray × ByteArray) : Int := (x.1.size : Int) + (x.2.size : Int)
theorem prW_pos (x : (ByteArray × ByteArray)) : 0 ≤ prW x := by unfold prW; omega
theorem prC_len (x : (ByteArray × ByteArray)) : (prC x).length = 2 := rfl
theorem prC_one (x : (ByteArray × ByteArray)) : ∀ u ∈ prC x, u.oneCell' = true := by
  intro u hu
  unfold prC at hu
  simp only [List.mem_cons, List.not_mem_nil, or_false] at hu
  rcases hu with rfl | rfl <;> rfl
def prAt (l : List (ByteArray × ByteArray)) (k : Nat) : (ByteArray × ByteArray) := l.getD k prZ
theorem prAt_some {l : List (ByteArray × ByteArray)} {k : Nat} (h : k < l.length) : l[k]? = some (prAt l k) := by
  unfold prAt; rw [List.getD_eq_getElem?_getD, List.getElem?_eq_getElem h]; rfl
theorem prAt_get {l : List (ByteArray × ByteArray)} {k : Nat} (h : k < l.length) : prAt l k = l[k] := by
  have := prAt_some h; rw [List.getElem?_eq_getElem h] at this; exact (Option.some.inj this).symm
theorem prAt_mem {l : List (ByteArray × ByteArray)} {k : Nat} (h : k < l.length) : prAt l k ∈ l := by rw [prAt_get h]; exact List.getElem_mem h

abbrev PrReads (w : World) (v : Value) (l : List (ByteArray × ByteArray)) : Prop := ReadsR prC 2 w v l
abbrev PrOwns (w : World) (base : Nat) (v : Value) (l : List (ByteArray × ByteArray)) : Prop := OwnsR prC 2 107 w base v l
theorem pr_cells {w : World} {b off : Nat} {l : List (ByteArray × ByteArray)} (hc : ∀ k x, l[k]? = some x → w.rangeAt b (off + k * 2) (prC x)) {k : Nat} (h : k < l.length) :
    w.cell? ⟨b, off + k * 2, none⟩ = some (.string (prAt l k).1) ∧ w.cell? ⟨b, off + k * 2 + 1, none⟩ = some (.string (prAt l k).2) :=
  ⟨hc k _ (prAt_some h) 0 _ rfl, hc k _ (prAt_some h) 1 _ rfl⟩
theorem pr_some {w : World} {ao : Option Addr} {cap : Nat} {l : List (ByteArray × ByteArray)} (h : PrReads w (.slice ao l.length cap) l) (h0 : 0 < l.length) :
    ∃ b off, ao = some ⟨b, off, none⟩ ∧ b < w.heap.size ∧ l.length ≤ cap ∧ cap ≤ maxLen ∧ ∀ k x, l[k]? = some x → w.rangeAt b (off + k * 2) (prC x) := by
  rcases h with ⟨rfl, _⟩ | ⟨_, b, off, cap', hv, hb, hnc, hcm, hc⟩
  · simp at h0
  · simp only [Value.slice.injEq, true_and] at hv
    obtain ⟨h1, rfl⟩ := hv
    exact ⟨b, off, h1, hb, hnc, hcm, hc⟩
theorem pr_cell_kept {w w' : World} {b o : Nat} {x y : Value} (h : w.cell? ⟨b, o, none⟩ = some x ∧ w.cell? ⟨b, o + 1, none⟩ = some y) (hB : Below w.heap.size w w') (hb : b < w.heap.size) :
    w'.cell? ⟨b, o, none⟩ = some x ∧ w'.cell? ⟨b, o + 1, none⟩ = some y :=
  ⟨(hB.cell (p := ⟨b, o, none⟩) hb).trans h.1, (hB.cell (p := ⟨b, o + 1, none⟩) hb).trans h.2⟩

set_option maxHeartbeats 1000000 in
theorem szPair_any (s t : ByteArray) (left : Int) (w : World) (hl : 0 ≤ left) (hl2 : left ≤ 1048576) (hs : s.size ≤ maxLen) (ht : t.size ≤ maxLen) :
    Calls Try.prog 102 #[.agg #[.string s, .string t], .int .i64 left] w fun e w' => e = .returned (.int .i64 (szOne prW (s, t) left)) ∧ Below w.heap.size w w' := by
  unfold maxLen at hs
  unfold maxLen at ht
  go_enter Try.func102, Try.ntmps102
  go_wp2
  · go_ret
    exact ⟨ret_int' (szOne_neg (by unfold prW; show _ - ((s.size : Int) + (t.size : Int)) < 0; omega)).symm, (Below.refl _ _).alloc (Nat.le_refl _) _⟩
  · go_ret
    exact ⟨ret_int' (szOne_neg (by unfold prW; show _ - ((s.size : Int) + (t.size : Int)) < 0; omega)).symm, (Below.refl _ _).alloc (Nat.le_refl _) _⟩
  · go_ret
    exact ⟨ret_int' (by rw [szOne_pos (by unfold prW; show 0 ≤ _ - ((s.size : Int) + (t.size : Int)); omega)]; unfold prW; show _ = _ - ((s.size : Int) + (t.size : Int)); omega), (Below.refl _ _).alloc (Nat.le_refl _) _⟩
end Go.Proofs.Ytbkllceceaedpaa
