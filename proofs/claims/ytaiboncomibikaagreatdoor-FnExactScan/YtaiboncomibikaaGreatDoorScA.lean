/- The laws' own helpers over slices of Score: how much is left of a purse; a copy in new memory; are two alike. -/
import Derived.Test.YtaiboncomibikaaGreatDoorRows
import Derived.Test.YtaiboncomibikaaGreatDoorRz
import Derived.Test.YtaiboncomibikaaGreatDoorStrs
import Derived.Deep.RegionHeld3
namespace Go.Proofs.YtaiboncomibikaaGreatDoor
open Go.RowKit

def scC (x : ByteArray × Int) : List Value := [.string x.1, .int .i64 x.2]
def scZ : ByteArray × Int := (ByteArray.empty, 0)
def scW (x : ByteArray × Int) : Int := (x.1.size : Int)
theorem scW_pos (x : (ByteArray × Int)) : 0 ≤ scW x := by unfold scW; omega
theorem scC_len (x : (ByteArray × Int)) : (scC x).length = 2 := rfl
theorem scC_one (x : (ByteArray × Int)) : ∀ u ∈ scC x, u.oneCell' = true := by
  intro u hu
  unfold scC at hu
  simp only [List.mem_cons, List.not_mem_nil, or_false] at hu
  rcases hu with rfl | rfl <;> rfl
def scAt (l : List (ByteArray × Int)) (k : Nat) : (ByteArray × Int) := l.getD k scZ
theorem scAt_some {l : List (ByteArray × Int)} {k : Nat} (h : k < l.length) : l[k]? = some (scAt l k) := by
  unfold scAt; rw [List.getD_eq_getElem?_getD, List.getElem?_eq_getElem h]; rfl
theorem scAt_get {l : List (ByteArray × Int)} {k : Nat} (h : k < l.length) : scAt l k = l[k] := by
  have := scAt_some h; rw [List.getElem?_eq_getElem h] at this; exact (Option.some.inj this).symm
theorem scAt_mem {l : List (ByteArray × Int)} {k : Nat} (h : k < l.length) : scAt l k ∈ l := by rw [scAt_get h]; exact List.getElem_mem h

abbrev ScReads (w : World) (v : Value) (l : List (ByteArray × Int)) : Prop := ReadsR scC 2 w v l
abbrev ScOwns (w : World) (base : Nat) (v : Value) (l : List (ByteArray × Int)) : Prop := OwnsR scC 2 89 w base v l
theorem sc_cells {w : World} {b off : Nat} {l : List (ByteArray × Int)} (hc : ∀ k x, l[k]? = some x → w.rangeAt b (off + k * 2) (scC x)) {k : Nat} (h : k < l.length) :
    w.cell? ⟨b, off + k * 2, none⟩ = some (.string (scAt l k).1) ∧ w.cell? ⟨b, off + k * 2 + 1, none⟩ = some (.int .i64 (scAt l k).2) :=
  ⟨hc k _ (scAt_some h) 0 _ rfl, hc k _ (scAt_some h) 1 _ rfl⟩
theorem sc_some {w : World} {ao : Option Addr} {cap : Nat} {l : List (ByteArray × Int)} (h : ScReads w (.slice ao l.length cap) l) (h0 : 0 < l.length) :
    ∃ b off, ao = some ⟨b, off, none⟩ ∧ b < w.heap.size ∧ l.length ≤ cap ∧ cap ≤ maxLen ∧ ∀ k x, l[k]? = some x → w.rangeAt b (off + k * 2) (scC x) := by
  rcases h with ⟨rfl, _⟩ | ⟨_, b, off, cap', hv, hb, hnc, hcm, hc⟩
  · simp at h0
  · simp only [Value.slice.injEq, true_and] at hv
    obtain ⟨h1, rfl⟩ := hv
    exact ⟨b, off, h1, hb, hnc, hcm, hc⟩
theorem sc_cell_kept {w w' : World} {b o : Nat} {x y : Value} (h : w.cell? ⟨b, o, none⟩ = some x ∧ w.cell? ⟨b, o + 1, none⟩ = some y) (hB : Below w.heap.size w w') (hb : b < w.heap.size) :
    w'.cell? ⟨b, o, none⟩ = some x ∧ w'.cell? ⟨b, o + 1, none⟩ = some y :=
  ⟨(hB.cell (p := ⟨b, o, none⟩) hb).trans h.1, (hB.cell (p := ⟨b, o + 1, none⟩) hb).trans h.2⟩

set_option maxHeartbeats 1000000 in
theorem szScore_any (s : ByteArray) (n : Int) (left : Int) (w : World) (hl : 0 ≤ left) (hl2 : left ≤ 1048576) (hs : s.size ≤ maxLen) :
    Calls Tryz.prog 59 #[.agg #[.string s, .int .i64 n], .int .i64 left] w fun e w' => e = .returned (.int .i64 (szOne scW (s, n) left)) ∧ Below w.heap.size w w' := by
  unfold maxLen at hs
  go_enter Tryz.func59, Tryz.ntmps59
  go_wp2
  · go_ret
    exact ⟨ret_int' (szOne_neg ‹_›).symm, (Below.refl _ _).alloc (Nat.le_refl _) _⟩
  · go_ret
    exact ⟨ret_int' (szOne_pos ‹_›).symm, (Below.refl _ _).alloc (Nat.le_refl _) _⟩
end Go.Proofs.YtaiboncomibikaaGreatDoor
