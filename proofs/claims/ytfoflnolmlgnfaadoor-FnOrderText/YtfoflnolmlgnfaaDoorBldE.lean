/- A Builder that is embedded in the reader of orders (six cells, its own ahead): bytes are written, read and taken back; nothing else but rows of bytes is touched. -/
import Derived.Test.YtfoflnolmlgnfaaDoorChecked
import Derived.WalkKit
import Derived.WalkSpells
import Derived.Outline
import Derived.Lib.Builder
import Derived.Lib.FrozenHead2
import Derived.Lib.OthersKept
import Derived.Shelf.Strings.Builder1
namespace Go.Proofs.YtfoflnolmlgnfaaDoor
open Go.RowKit

theorem sizeB : (Tryd.prog.info? 50).map (·.size) = some 2 := by kernel_rfl
theorem liesE : liesAt Tryd.prog Tryd.prog.depth 69 (6 / Tryd.prog.cellsOf 69) 0 50 1 = true := by kernel_rfl
theorem infoU8 : (Tryd.prog.info? 5).map (fun i => (i.zero, i.size, i.bytes)) = some (some (.int .u8 0), 1, 1) := by kernel_rfl
/-- block r: a Builder of the bytes buf, its own address p, and four cells more -/
def EB (w : World) (B r : Nat) (p : Value) (buf : List UInt8) (x2 x3 x4 x5 : Value) : Prop :=
  B ≤ r ∧ ∃ v, w.heap[r]? = some (.cells #[p, v, x2, x3, x4, x5] 69 (0, 0)) ∧ w.ownsRowF B 5 1 v buf.length (Lib.byteCells buf) ∧ v.ownBlock ≠ some r ∧ (buf = [] → v = .slice none 0 0)
def selfP (r : Nat) (p : Value) : Prop := p = .pointer none ∨ p = .pointer (some ⟨r, 0, none⟩)
theorem eb_lt {w : World} {B r : Nat} {p : Value} {buf : List UInt8} {x2 x3 x4 x5 : Value} (h : EB w B r p buf x2 x3 x4 x5) : r < w.heap.size := by
  obtain ⟨_, v, hb, _⟩ := h; exact (Array.getElem?_eq_some_iff.1 hb).1
theorem eb_used {w : World} {B r : Nat} {p : Value} {buf : List UInt8} {x2 x3 x4 x5 : Value} (h : EB w B r p buf x2 x3 x4 x5) (q : Value) : EB (w.setCell ⟨r, 0, none⟩ q) B r q buf x2 x3 x4 x5 := by
  obtain ⟨hB, v, hb, ho, hne, hn⟩ := h
  refine ⟨hB, v, ?_, ?_, hne, hn⟩
  · rw [heap_setCell_same w r 0 _ _ _ hb]; rfl
  · exact ho.kept (World.grownBy.mk rfl rfl rfl ((Below.refl 0 w).setCell (p := ⟨r, 0, none⟩) (Nat.zero_le _) q).size (fun k hk hkr => Below.heap_setCell w ⟨r, 0, none⟩ q k (fun e => hkr (by rw [e])))) (row := some r) (by
      cases hv : v.ownBlock with
      | none => exact .inl rfl
      | some k => right; rw [hv] at hne; exact hne)

set_option maxHeartbeats 1000000 in
set_option maxRecDepth 100000 in
theorem copyE_used (r : Nat) (w : World) (h0 : w.cell? ⟨r, 0, none⟩ = some (.pointer (some ⟨r, 0, none⟩))) :
    Calls Tryd.prog 64 #[.pointer (some ⟨r, 0, none⟩)] w fun e w' => e = .returned (.tuple #[]) ∧ w' = w := by
  obtain ⟨j, hj, _⟩ := Option.map_eq_some_iff.1 sizeB
  go_enter Tryd.func64, Tryd.ntmps64
  go_wp2
  rw [Lib.run_neq_ptr_same w _ Tryd.underlying48 hj]
  go_wp2
  go_end0
  exact ⟨rfl, rfl⟩
set_option maxHeartbeats 1000000 in
set_option maxRecDepth 100000 in
theorem copyE_fresh (r : Nat) (w : World) (h0 : w.cell? ⟨r, 0, none⟩ = some (.pointer none)) (hsh : w.shape? r = some (69, 6)) (hfz : w.frozen? ⟨r, 0, none⟩ = false) :
    Calls Tryd.prog 64 #[.pointer (some ⟨r, 0, none⟩)] w fun e w' => e = .returned (.tuple #[]) ∧ w' = w.setCell ⟨r, 0, none⟩ (.pointer (some ⟨r, 0, none⟩)) := by
  obtain ⟨j, hj, hjs⟩ := Option.map_eq_some_iff.1 sizeB
  go_enter Tryd.func64, Tryd.ntmps64
  go_wp2
  rw [Lib.run_to_unsafe w ⟨r, 0, none⟩ Tryd.underlying48 Tryd.underlying107 hj (by rw [hjs]; decide) hsh (show (0 : Nat) < 6 by decide)]
  simp only [Result.andThen]
  rw [Oper.upon_value]
  go_wp2
  rw [run_callFunc_extern Tryd.func71 (by kernel_rfl) (by kernel_rfl) (by kernel_rfl) (e := Extern.AbiNoEscape.same) (by kernel_rfl)]
  rw [Lib.run_noEscape]
  simp only [Result.andThen]
  rw [Oper.upon_value]
  go_wp2
  rw [Lib.run_from_unsafe w ⟨r, 0, none⟩ Tryd.underlying107 Tryd.underlying48 hj hsh liesE]
  simp only [Result.andThen]
  rw [Oper.upon_value]
  go_wp2
  go_end0
  exact ⟨rfl, rfl⟩
theorem copyE_any (B r : Nat) (p : Value) (buf : List UInt8) (x2 x3 x4 x5 : Value) (w : World) (hp : selfP r p) (h : EB w B r p buf x2 x3 x4 x5) :
    Calls Tryd.prog 64 #[.pointer (some ⟨r, 0, none⟩)] w fun e w' => e = .returned (.tuple #[]) ∧ EB w' B r (.pointer (some ⟨r, 0, none⟩)) buf x2 x3 x4 x5 ∧ Below B w w' ∧ Lib.OthersKept 5 (some r) w w' := by
  obtain ⟨hB, v, hb, ho, hne, hn⟩ := h
  rcases hp with rfl | rfl
  · have hc : w.cell? ⟨r, 0, none⟩ = some (.pointer none) := by rw [Lib.cell_of_heap hb]; rfl
    refine (copyE_fresh r w hc (by simp [World.shape?, hb]) (Lib.frozen_of_heap hb 0)).mono ?_
    rintro e w' ⟨rfl, rfl⟩
    exact ⟨rfl, eb_used ⟨hB, v, hb, ho, hne, hn⟩ _, (Below.refl B w).setCell (p := ⟨r, 0, none⟩) hB _, (Lib.OthersKept.refl _ _ w).setCell ⟨r, 0, none⟩ rfl _⟩
  · have hc : w.cell? ⟨r, 0, none⟩ = some (.pointer (some ⟨r, 0, none⟩)) := by rw [Lib.cell_of_heap hb]; rfl
    refine (copyE_used r w hc).mono ?_
    rintro e w' ⟨rfl, rfl⟩
    exact ⟨rfl, ⟨hB, v, hb, ho, hne, hn⟩, Below.refl B _, Lib.OthersKept.refl _ _ _⟩

set_option maxHeartbeats 2000000 in
set_option maxRecDepth 100000 in
theorem writeE_any (B r : Nat) (p : Value) (buf : List UInt8) (c : UInt8) (x2 x3 x4 x5 : Value) (w : World) (hp : selfP r p) (h : EB w B r p buf x2 x3 x4 x5) (hlen : buf.length ≤ 100000) (hBw : B ≤ w.heap.size) :
    Calls Tryd.prog 73 #[.pointer (some ⟨r, 0, none⟩), .int .u8 (c.toNat : Int)] w fun e w' => e = .returned .nilIface ∧ EB w' B r (.pointer (some ⟨r, 0, none⟩)) (buf ++ [c]) x2 x3 x4 x5 ∧ Below B w w' ∧ Lib.OthersKept 5 (some r) w w' := by
  obtain ⟨i0, hi, hz0, hz1, hz2⟩ := info_parts infoU8
  go_enter Tryd.func73, Tryd.ntmps73
  go_wp2_with fail
  refine (copyE_any B r p buf x2 x3 x4 x5 _ hp h).mono ?_
  rintro e w1 ⟨rfl, h1, hb1, hk1⟩
  have hlt := eb_lt h1
  obtain ⟨hB, v, hbk, hown, hne, hn⟩ := h1
  have c1 : w1.cell? ⟨r, 1, none⟩ = some v := by rw [Lib.cell_of_heap hbk]; rfl
  have hs1 := hb1.size
  go_wp2_with (at_builtin; refine wpList_append_ownF _ rfl _ _ 22 rfl B 5 i0 (.int .u8 0) 1 1 Tryd.underlying22 hi hz0 hz1 hz2 rfl (by decide) _ _ _ rfl (hown.alloc _) ⟨w1.heap.size, 0, none⟩ 1 1 [.int .u8 (c.toNat : Int)] rfl rfl ?c1 ?c2 ?c3 ?c4 ?c5 ?_)
  case c1 =>
    intro j u hj
    match j, hj with
    | 0, hj => simp at hj; subst hj; simp [Addr.add]
  case c2 => intro u hu; simp at hu; subst hu; rfl
  case c3 => unfold maxLen; omega
  case c4 => omega
  case c5 => simp; omega
  intro v' w2 hown' hgrow _
  have hb2 : w2.heap[r]? = some (.cells #[.pointer (some ⟨r, 0, none⟩), v, x2, x3, x4, x5] 69 (0, 0)) := by
    rw [hgrow.block r (by simp; omega) (fun e => hne e.symm), Lib.alloc_old w1 _ r hlt]
    exact hbk
  have d1 : w2.cell? ⟨r, 1, none⟩ = some v := by rw [Lib.cell_of_heap hb2]; rfl
  have f1 : w2.frozen? ⟨r, 1, none⟩ = false := Lib.frozen_of_heap hb2 1
  obtain ⟨g, cap, rfl⟩ : ∃ g cap, v' = .slice (some ⟨g, 0, none⟩) (buf.length + 1) cap := by
    rcases hown'.2 with ⟨_, h0⟩ | ⟨g, cap, cur, fz, hv, _⟩
    · omega
    · exact ⟨g, cap, hv⟩
  have hgr : (Value.slice (some ⟨g, 0, none⟩) (buf.length + 1) cap).ownBlock ≠ some r := Lib.ownBlock_neF hown' hb2 (by decide)
  go_wp2
  go_ret
  refine ⟨rfl, ⟨hB, _, by rw [heap_setCell_same w2 r 1 _ _ _ hb2]; rfl, ?_, hgr, fun e => by simp at e⟩, ?_, ((hk1.alloc _).grown hgrow (Lib.ownsRowF_kind (hown.alloc _))).setCell ⟨r, 1, none⟩ rfl _⟩
  · rw [List.length_append, Lib.byteCells_append]
    refine World.ownsRowF.kept (row := some r) hown' ⟨rfl, rfl, rfl, ((Below.refl 0 w2).setCell (p := ⟨r, 1, none⟩) (Nat.zero_le _) _).size, fun k hk hkr => Below.heap_setCell w2 ⟨r, 1, none⟩ _ k (fun e => hkr (by rw [e]))⟩ (.inr hgr)
  · exact ((hb1.alloc (by omega) _).grown hgrow (by simp; omega) (fun k hk => (hown.lt k hk).1)).setCell (p := ⟨r, 1, none⟩) hB _
end Go.Proofs.YtfoflnolmlgnfaaDoor
