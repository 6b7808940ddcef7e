/- What stands apart in memory: rows in two stretches of blocks. -/
import Derived.Test.YtaiboncomibikaaGreatDoorMark
namespace Go.Proofs.YtaiboncomibikaaGreatDoor
open Go.RowKit

/-- a row of its own whose block lies from lo up to, not with, hi -/
def Own (w : World) (lo hi : Nat) (v : Value) (l : List ByteArray) : Prop := Owns w lo v l ∧ ∀ k, v.ownBlock = some k → k < hi

theorem own_of {w : World} {lo : Nat} {v : Value} {l : List ByteArray} (h : Owns w lo v l) : Own w lo w.heap.size v l := ⟨h, fun k hk => (h.lt k hk).2⟩
theorem own_kept {w w' : World} {lo hi : Nat} {v : Value} {l : List ByteArray} (h : Own w lo hi v l) (hb : Below w.heap.size w w') : Own w' lo hi v l := ⟨owns_kept h.1 hb, h.2⟩
theorem own_reads {w : World} {lo hi : Nat} {v : Value} {l : List ByteArray} (h : Own w lo hi v l) : Reads w v l := owns_reads h.1
theorem own_apart {w w' wu : World} {lo hi lo' hi' : Nat} {v u : Value} {l m : List ByteArray} (h : Own w lo hi v l) (hu : Own wu lo' hi' u m) (hg : w.grownBy w' u.ownBlock) (hap : hi ≤ lo' ∨ hi' ≤ lo) : Own w' lo hi v l := by
  refine ⟨h.1.kept hg ?_, h.2⟩
  cases hv : v.ownBlock with
  | none => exact .inl rfl
  | some k =>
    right
    intro e
    have h1 := h.2 k hv
    have h2 := (h.1.lt k hv).1
    have h3 := hu.2 k e.symm
    have h4 := (hu.1.lt k e.symm).1
    omega
theorem below_own {B : Nat} {a w w' wu : World} {lo hi : Nat} {u : Value} {m : List ByteArray} (h : Below B a w) (hB : B ≤ w.heap.size) (hu : Own wu lo hi u m) (hlo : B ≤ lo) (hg : w.grownBy w' u.ownBlock) : Below B a w' :=
  h.grown hg hB (fun k hk => Nat.le_trans hlo (hu.1.lt k hk).1)
theorem below_step {B : Nat} {a w w' : World} (h : Below B a w) (hB : B ≤ w.heap.size) (hb : Below w.heap.size w w') : Below B a w' := h.trans (hb.mono hB)

theorem eq_true (v u : Value) (l : List ByteArray) (w : World) (hr : Reads w v l) (hq : Reads w u l) (hlen : l.length ≤ 1048576) :
    Calls Tryz.prog 8 #[v, u] w fun e w' => e = .returned (.bool true) ∧ Below w.heap.size w w' :=
  (eq_any v u l l w hr hq hlen hlen).mono fun e w' ⟨h, hb⟩ => ⟨by rw [h]; simp, hb⟩

/-- a copy, told by the stretch that it lies in -/
theorem to_own (v : Value) (l : List ByteArray) (w : World) (hr : Reads w v l) (hlen : l.length ≤ 1048576) :
    Calls Tryz.prog 41 #[v] w fun e w' => ∃ v', e = .returned v' ∧ Own w' w.heap.size w'.heap.size v' l ∧ Below w.heap.size w w' :=
  (to_any v l w hr hlen).mono fun _ _ ⟨v', h, ho, hb⟩ => ⟨v', h, own_of ho, hb⟩
theorem mark_own (v : Value) (l : List ByteArray) (lo hi : Nat) (w : World) (ho : Own w lo hi v l) (hlen : l.length ≤ 1048576) :
    Calls Tryz.prog 11 #[v, .int .i64 1] w fun e w' => e = .returned (.int .i64 (1 + (l.length : Int))) ∧ Own w' lo hi v (marks 1 l.length) ∧ w.grownBy w' v.ownBlock :=
  (markS_any v l lo 1 w ho.1 (by omega) (by omega) hlen).mono fun _ _ ⟨h, ho2, hg⟩ => ⟨h, ⟨ho2, ho.2⟩, hg⟩
theorem mark_own_from (v : Value) (l : List ByteArray) (lo hi : Nat) (k : Int) (w : World) (ho : Own w lo hi v l) (hk : 0 < k) (hk2 : k ≤ 6000000) (hlen : l.length ≤ 1048576) :
    Calls Tryz.prog 11 #[v, .int .i64 k] w fun e w' => e = .returned (.int .i64 (k + (l.length : Int))) ∧ Own w' lo hi v (marks k.toNat l.length) ∧ w.grownBy w' v.ownBlock := by
  obtain ⟨K, rfl⟩ := Int.eq_ofNat_of_zero_le (show 0 ≤ k by omega)
  exact (markS_any v l lo K w ho.1 (by omega) (by omega) hlen).mono fun _ _ ⟨h, ho2, hg⟩ => ⟨h, ⟨ho2, ho.2⟩, hg⟩
theorem held_own (v : Value) (n lo hi : Nat) (w : World) (ho : Own w lo hi v (marks 1 n)) (hlen : n ≤ 1048576) :
    Calls Tryz.prog 12 #[v, .int .i64 1] w fun e w' => e = .returned (.int .i64 (1 + (n : Int))) ∧ Below w.heap.size w w' :=
  heldS_any v n 1 w (own_reads ho) (by omega) (by omega) hlen
end Go.Proofs.YtaiboncomibikaaGreatDoor
