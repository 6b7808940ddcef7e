/- Draws of entries. -/
import Derived.Test.YtdaahcenplepjaaEnD
import Derived.Test.YtdaahcenplepjaaDrTx
import Derived.Test.YtdaahcenplepjaaDrS
import Derived.Test.YtdaahcenplepjaaDrF
namespace Go.Proofs.Ytdaahcenplepjaa
open Go.RowKit
set_option linter.unusedVariables false

/-- an entry's lists are rows of their own from block b on -/
def En3 (w : World) (b : Nat) (vl vs vf : Value) (e : Ent) : Prop := Owns w b vl e.list ∧ ScOwns w b vs e.scores ∧ PrOwns w b vf e.fields
theorem ne_of_lt {v : Value} {w : World} {b n sz : Nat} {t : TypeId} {xs : List Value} (h : w.ownsRow b t sz v n xs) {g : Nat} (hg : g < b) : v.ownBlock = none ∨ v.ownBlock ≠ some g := by
  cases hv : v.ownBlock with
  | none => exact .inl rfl
  | some k => right; intro e; simp only [Option.some.injEq] at e; have := (h.lt k hv).1; omega
theorem en3_grown {w w' : World} {b g : Nat} {vl vs vf : Value} {e : Ent} (h : En3 w b vl vs vf e) (hg : w.grownBy w' (some g)) (hb : g < b) : En3 w' b vl vs vf e :=
  ⟨World.ownsRow.kept h.1 hg (ne_of_lt h.1 hb), World.ownsRow.kept h.2.1 hg (ne_of_lt h.2.1 hb), World.ownsRow.kept h.2.2 hg (ne_of_lt h.2.2 hb)⟩
theorem en3_reads {w : World} {b : Nat} {vl vs vf : Value} {e : Ent} (h : En3 w b vl vs vf e) : EnReads w vl vs vf e :=
  ⟨owns_reads h.1, ownsR_reads scC_len h.2.1, ownsR_reads prC_len h.2.2⟩
theorem en3_text {w : World} {b : Nat} (k : ByteArray) (t n : Int) (s : ByteArray) : En3 w b (.slice none 0 0) (.slice none 0 0) (.slice none 0 0) ⟨k, t, n, s, [], [], []⟩ :=
  ⟨World.ownsRow_nil _ _ _ _, World.ownsRow_nil _ _ _ _, World.ownsRow_nil _ _ _ _⟩
theorem cell_grown (w : World) (a : Addr) (u : Value) : w.grownBy (w.setCell a u) (some a.block) :=
  ⟨rfl, rfl, rfl, ((Below.refl 0 w).setCell (p := a) (Nat.zero_le _) u).size, fun k hk hne => Below.heap_setCell w a u k (fun e => hne (by rw [e]))⟩
theorem row_grown {w w' : World} {B g : Nat} {cs : Array Value} {t : TypeId} (h : w.heap[B]? = some (.cells cs t (0, 0))) (hg : w.grownBy w' (some g)) (hne : B ≠ g) : w'.heap[B]? = some (.cells cs t (0, 0)) := by
  have hlt := (Array.getElem?_eq_some_iff.1 h).1
  rw [hg.block B hlt (by intro e; simp only [Option.some.injEq] at e; exact hne e)]; exact h
theorem row_below {w w' : World} {B b : Nat} {cs : Array Value} {t : TypeId} (h : w.heap[B]? = some (.cells cs t (0, 0))) (hb : Below b w w') (hlt : B < b) : w'.heap[B]? = some (.cells cs t (0, 0)) :=
  (hb.block B hlt).trans h
theorem setc_size (w : World) (a : Addr) (u : Value) : (w.setCell a u).heap.size = w.heap.size := by
  show (w.heap.modify a.block _).size = _
  rw [Array.size_modify]
theorem box7_setc {w : World} {B : Nat} {x0 x1 x2 x3 x4 x5 x6 : Value} {t : TypeId} (h : w.heap[B]? = some (.cells #[x0, x1, x2, x3, x4, x5, x6] t (0, 0))) (u0 u1 u2 u3 u4 u5 u6 : Value) :
    (((((((w.setCell ⟨B, 0, none⟩ u0).setCell ⟨B, 1, none⟩ u1).setCell ⟨B, 2, none⟩ u2).setCell ⟨B, 3, none⟩ u3).setCell ⟨B, 4, none⟩ u4).setCell ⟨B, 5, none⟩ u5).setCell ⟨B, 6, none⟩ u6).heap[B]? = some (.cells #[u0, u1, u2, u3, u4, u5, u6] t (0, 0)) := by
  rw [heap_setCell_same _ B 6 _ _ _ (heap_setCell_same _ B 5 _ _ _ (heap_setCell_same _ B 4 _ _ _ (heap_setCell_same _ B 3 _ _ _ (heap_setCell_same _ B 2 _ _ _ (heap_setCell_same _ B 1 _ _ _ (heap_setCell_same _ B 0 _ _ _ h))))))]; rfl
theorem all7 (P : World → Prop) (B : Nat) (hs : ∀ W o u, P W → P (W.setCell ⟨B, o, none⟩ u)) {w : World} (h : P w) (u0 u1 u2 u3 u4 u5 u6 : Value) :
    P (((((((w.setCell ⟨B, 0, none⟩ u0).setCell ⟨B, 1, none⟩ u1).setCell ⟨B, 2, none⟩ u2).setCell ⟨B, 3, none⟩ u3).setCell ⟨B, 4, none⟩ u4).setCell ⟨B, 5, none⟩ u5).setCell ⟨B, 6, none⟩ u6) :=
  hs _ _ _ (hs _ _ _ (hs _ _ _ (hs _ _ _ (hs _ _ _ (hs _ _ _ (hs _ _ _ h))))))
def keysL : List ByteArray := [⟨#[107]⟩, ⟨#[108]⟩, ⟨#[110, 101, 119]⟩, ⟨#[]⟩, ⟨#[109, 117, 99, 104, 116, 111, 111, 108, 111, 110, 103, 107, 101, 121]⟩]
theorem keysL_short : ∀ s ∈ keysL, s.size ≤ 14 := by
  intro s hs
  simp only [keysL, List.mem_cons, List.not_mem_nil, or_false] at hs
  rcases hs with rfl | rfl | rfl | rfl | rfl <;> decide
def tilsL : List Int := [0, 0, 20, 2000001, 1]
/-- small enough for whatever is done with it -/
structure EnTiny (e : Ent) : Prop where
  key : e.key.size ≤ 1000
  text : e.text.size ≤ 1000
  list : e.list.length ≤ 1000
  scores : e.scores.length ≤ 1000
  fields : e.fields.length ≤ 1000
theorem tiny_small {e : Ent} (h : EnTiny e) : EnSmall e := ⟨by have := h.key; omega, by have := h.text; omega, by have := h.list; omega, by have := h.scores; omega, by have := h.fields; omega⟩

set_option maxHeartbeats 32000000 in
set_option maxRecDepth 100000 in
theorem entry_draw (r p : Nat) (v : Value) (zs : List Int) (w : World) (h : RdAt w r v zs p) (hp : p ≤ 1000) :
    Calls Try.prog 7 #[.pointer (some ⟨r, 0, none⟩)] w fun x w' => (∃ e vl vs vf b, x = .returned (enV e vl vs vf) ∧ w.heap.size ≤ b ∧ En3 w' b vl vs vf e ∧ EnTiny e) ∧ w.grownBy w' (some r) := by
  have hrl := rd_lt h
  have hBr := (Below.refl w.heap.size w).alloc (Nat.le_refl _) (.cells #[.string ⟨#[]⟩, .int .i64 0, .int .i64 0, .string ⟨#[]⟩, .slice none 0 0, .slice none 0 0, .slice none 0 0] 27)
  have q0 : Hid ((w.alloc (.cells #[.string ⟨#[]⟩, .int .i64 0, .int .i64 0, .string ⟨#[]⟩, .slice none 0 0, .slice none 0 0, .slice none 0 0] 27)).heap[w.heap.size]? = some (.cells #[.string ⟨#[]⟩, .int .i64 0, .int .i64 0, .string ⟨#[]⟩, .slice none 0 0, .slice none 0 0, .slice none 0 0] 27 (0, 0))) := heap_alloc_new _ _
  have hz0 : (w.alloc (.cells #[.string ⟨#[]⟩, .int .i64 0, .int .i64 0, .string ⟨#[]⟩, .slice none 0 0, .slice none 0 0, .slice none 0 0] 27)).heap.size = w.heap.size + 1 := by simp
  have hR0 := rd_grown h hBr
  have hG0 : w.grownBy _ (some r) := grown_of_below2 hBr
  go_enter Try.func7, Try.ntmps7
  go_wp2_with fail
  generalize hW : w.alloc (.cells #[.string ⟨#[]⟩, .int .i64 0, .int .i64 0, .string ⟨#[]⟩, .slice none 0 0, .slice none 0 0, .slice none 0 0] 27) = w0 at *
  clear hW h hBr
  have hBk := (Below.refl w0.heap.size w0).alloc (Nat.le_refl _) (.cells (keysL.map Value.string).toArray 9)
  have hok : Owns (w0.alloc (.cells (keysL.map Value.string).toArray 9)) (w.heap.size + 1) (.slice (some ⟨w.heap.size + 1, 0, none⟩) 5 5) keysL := by rw [← hz0]; exact World.ownsRow_lit w0 (keysL.map Value.string).toArray 5 (Nat.le_refl _) (by decide) rfl
  have hrl0 : r < w.heap.size + 1 := by omega
  refine (of_any r p v zs _ keysL (w.heap.size + 1) (w0.alloc (.cells (keysL.map Value.string).toArray 9)) (rd_grown hR0 hBk) (by omega) hok hrl0 (by decide) (by decide)).mono ?_
  rintro e w1 ⟨s, rfl, hmem, hR1, hg1⟩
  have hs := keysL_short s hmem
  have hg01 := grown_trans2 (World.grownBy_alloc w0 (.cells (keysL.map Value.string).toArray 9) (some r)) hg1
  have hG1 := grown_trans2 hG0 hg01
  have q1 : Hid _ := row_grown q0.out hg01 (by omega)
  have hz1 := hg01.size
  clear hmem hg1 hg01 hok hBk hR0 hG0 q0
  go_wp2_with fail
  refine (pick_any r _ v zs 5 _ hR1 (by omega) (by omega) (by omega)).mono ?_
  rintro e w2 ⟨x, rfl, hx0, hx1, hR2, hg2⟩
  have hG2 := grown_trans2 hG1 hg2
  have q2 : Hid _ := row_grown q1.out hg2 (by omega)
  have hz2 := hg2.size
  clear hR1 hG1 hg2 q1
  go_wp2_with fail
  have hBk := (Below.refl w2.heap.size w2).alloc (Nat.le_refl _) (.cells (tilsL.map (Value.int .i64)).toArray 3)
  have hok : (w2.alloc (.cells (tilsL.map (Value.int .i64)).toArray 3)).ownsRow w2.heap.size 3 1 (.slice (some ⟨w2.heap.size, 0, none⟩) 5 5) 5 (tilsL.map (Value.int .i64)) := World.ownsRow_lit w2 (tilsL.map (Value.int .i64)).toArray 5 (Nat.le_refl _) (by decide) rfl
  refine (one_any r _ v zs tilsL w2.heap.size 5 w2.heap.size (w2.alloc (.cells (tilsL.map (Value.int .i64)).toArray 3)) (rd_grown hR2 hBk) (by omega) hok (by omega) (by decide) (by decide)).mono ?_
  rintro e w3 ⟨t, rfl, hmem, hR3, hg3⟩
  have hg23 := grown_trans2 (World.grownBy_alloc w2 (.cells (tilsL.map (Value.int .i64)).toArray 3) (some r)) hg3
  have hG3 := grown_trans2 hG2 hg23
  have q3 : Hid _ := row_grown q2.out hg23 (by omega)
  have hz3 := hg23.size
  clear hmem hg3 hg23 hok hBk hR2 hG2 q2
  have hxx : x = 0 ∨ x = 1 ∨ x = 2 ∨ x = 3 ∨ x = 4 := by omega
  clear hx0 hx1
  rcases hxx with rfl | rfl | rfl | rfl | rfl
  ·
    go_wp2_with fail
    obtain ⟨w4, hW⟩ : ∃ W, w3.alloc (.cells #[.string s, .int .i64 t, .int .i64 1, .string ⟨#[]⟩, .slice none 0 0, .slice none 0 0, .slice none 0 0] 27) = W := ⟨_, rfl⟩
    have hb4 : Below w3.heap.size w3 w4 := by rw [← hW]; exact (Below.refl _ _).alloc (Nat.le_refl _) _
    have hz4 : w4.heap.size = w3.heap.size + 1 := by rw [← hW]; simp
    have b4 : Hid (w4.heap[w3.heap.size]? = some (.cells #[.string s, .int .i64 t, .int .i64 1, .string ⟨#[]⟩, .slice none 0 0, .slice none 0 0, .slice none 0 0] 27 (0, 0))) := by show _ = _; rw [← hW]; exact heap_alloc_new _ _
    have q4 : Hid _ := row_below q3.out hb4 (by omega)
    have hR4 := rd_grown hR3 hb4
    have hG4 : w.grownBy w4 (some r) := grown_base hG3 (hb4.mono (by omega))
    rw [hW]
    clear hW hb4 hR3 hG3 q3
    refine (text_any r _ v zs _ hR4 (by omega)).mono ?_
    rintro e w5 ⟨u, rfl, hu, _, hR5, hg5⟩
    have hG5 := grown_trans2 hG4 hg5
    have q5 : Hid _ := row_grown q4.out hg5 (by omega)
    have b5 : Hid _ := row_grown b4.out hg5 (by omega)
    have hz5 := hg5.size
    rw [hz4] at hz5
    clear hR4 hG4 hg5 q4 b4
    have c3 : w5.cell? ⟨w3.heap.size, 3, none⟩ = _ := cell_of_row _ _ _ _ _ _ b5.out
    have f3 : w5.frozen? ⟨w3.heap.size, 3, none⟩ = false := by simp [World.frozen?, b5.out]
    go_wp2_with fail
    clear c3 f3
    obtain ⟨w6, hW⟩ : ∃ W, w5.setCell ⟨w3.heap.size, 3, none⟩ (.string u) = W := ⟨_, rfl⟩
    have b6 : Hid (w6.heap[w3.heap.size]? = some (.cells #[.string s, .int .i64 t, .int .i64 1, .string u, .slice none 0 0, .slice none 0 0, .slice none 0 0] 27 (0, 0))) := by show _ = _; rw [← hW, heap_setCell_same _ _ 3 _ _ _ b5.out]; rfl
    have hgc : w5.grownBy w6 (some w3.heap.size) := by rw [← hW]; exact cell_grown _ _ _
    have q6 : Hid _ := row_grown q5.out hgc (by omega)
    have hG6 : w.grownBy w6 (some r) := by rw [← hW]; exact grown_base hG5 ((Below.refl w.heap.size w5).setCell (by show w.heap.size ≤ w3.heap.size; omega) _)
    have hR6 := rd_kept hR5 (show Below w3.heap.size w5 w6 by rw [← hW]; exact (Below.refl w3.heap.size w5).setCell (Nat.le_refl _) _) (by omega)
    have h36 : En3 w6 (w3.heap.size + 1) (.slice none 0 0) (.slice none 0 0) (.slice none 0 0) ⟨s, t, 1, u, [], [], []⟩ := en3_text _ _ _ _
    have hz6 : w6.heap.size = w5.heap.size := by rw [← hW]; exact setc_size _ _ _
    rw [hW]
    clear hW hgc hR5 hG5 q5 b5
    refine (pick_any r _ v zs 16 _ hR6 (by omega) (by omega) (by omega)).mono ?_
    rintro e w7 ⟨y, rfl, hy0, hy1, hR7, hg7⟩
    have hG7 := grown_trans2 hG6 hg7
    have q7 : Hid _ := row_grown q6.out hg7 (by omega)
    have b7 : Hid _ := row_grown b6.out hg7 (by omega)
    have h37 := en3_grown h36 hg7 (by omega)
    have hz7 := hg7.size
    clear hR6 hG6 hg7 q6 b6 h36
    by_cases hy : y = 0
    · subst hy
      have c0 : w7.cell? ⟨w3.heap.size, 0, none⟩ = some (.string s) := by rw [cell_of_row _ _ _ _ _ _ b7.out]; rfl
      have c1 : w7.cell? ⟨w3.heap.size, 1, none⟩ = some (.int .i64 t) := by rw [cell_of_row _ _ _ _ _ _ b7.out]; rfl
      have c2 : w7.cell? ⟨w3.heap.size, 2, none⟩ = some (.int .i64 1) := by rw [cell_of_row _ _ _ _ _ _ b7.out]; rfl
      have c3 : w7.cell? ⟨w3.heap.size, 3, none⟩ = some (.string u) := by rw [cell_of_row _ _ _ _ _ _ b7.out]; rfl
      have c4 : w7.cell? ⟨w3.heap.size, 4, none⟩ = some (.slice none 0 0) := by rw [cell_of_row _ _ _ _ _ _ b7.out]; rfl
      have c5 : w7.cell? ⟨w3.heap.size, 5, none⟩ = some (.slice none 0 0) := by rw [cell_of_row _ _ _ _ _ _ b7.out]; rfl
      have c6 : w7.cell? ⟨w3.heap.size, 6, none⟩ = some (.slice none 0 0) := by rw [cell_of_row _ _ _ _ _ _ b7.out]; rfl
      have d0 : w7.cell? ⟨w.heap.size, 0, none⟩ = some (.string ⟨#[]⟩) := by rw [cell_of_row _ _ _ _ _ _ q7.out]; rfl
      have d1 : w7.cell? ⟨w.heap.size, 1, none⟩ = some (.int .i64 0) := by rw [cell_of_row _ _ _ _ _ _ q7.out]; rfl
      have d2 : w7.cell? ⟨w.heap.size, 2, none⟩ = some (.int .i64 0) := by rw [cell_of_row _ _ _ _ _ _ q7.out]; rfl
      have d3 : w7.cell? ⟨w.heap.size, 3, none⟩ = some (.string ⟨#[]⟩) := by rw [cell_of_row _ _ _ _ _ _ q7.out]; rfl
      have d4 : w7.cell? ⟨w.heap.size, 4, none⟩ = some (.slice none 0 0) := by rw [cell_of_row _ _ _ _ _ _ q7.out]; rfl
      have d5 : w7.cell? ⟨w.heap.size, 5, none⟩ = some (.slice none 0 0) := by rw [cell_of_row _ _ _ _ _ _ q7.out]; rfl
      have d6 : w7.cell? ⟨w.heap.size, 6, none⟩ = some (.slice none 0 0) := by rw [cell_of_row _ _ _ _ _ _ q7.out]; rfl
      have f0 : ∀ o, w7.frozen? ⟨w.heap.size, o, none⟩ = false := fun o => by simp [World.frozen?, q7.out]
      have f1 : ∀ o, w7.frozen? ⟨w3.heap.size, o, none⟩ = false := fun o => by simp [World.frozen?, b7.out]
      go_wp2_with fail
      clear c0 c1 c2 c3 c4 c5 c6 d0 d1 d2 d3 d4 d5 d6 f0 f1
      refine (pick_any r _ v zs 7 _ hR7 (by omega) (by omega) (by omega)).mono ?_
      rintro e w8 ⟨y, rfl, hy0, hy1, hR8, hg8⟩
      have hG8 := grown_trans2 hG7 hg8
      have q8 : Hid _ := row_grown q7.out hg8 (by omega)
      have b8 : Hid _ := row_grown b7.out hg8 (by omega)
      have h38 := en3_grown h37 hg8 (by omega)
      have hz8 := hg8.size
      have q8b : Hid _ := row_grown q8.out (cell_grown w8 ⟨w3.heap.size, 2, none⟩ (.int .i64 y)) (by show w.heap.size ≠ w3.heap.size; omega)
      have h38b : En3 (w8.setCell ⟨w3.heap.size, 2, none⟩ (.int .i64 y)) (w3.heap.size + 1) (.slice none 0 0) (.slice none 0 0) (.slice none 0 0) ⟨s, t, y, u, [], [], []⟩ := en3_grown h38 (cell_grown w8 ⟨w3.heap.size, 2, none⟩ (.int .i64 y)) (by show w3.heap.size < _; omega)
      have hG8b := grown_base hG8 ((Below.refl w.heap.size w8).setCell (p := ⟨w3.heap.size, 2, none⟩) (by show w.heap.size ≤ w3.heap.size; omega) (.int .i64 y))
      have c0 : w8.cell? ⟨w3.heap.size, 0, none⟩ = some (.string s) := by rw [cell_of_row _ _ _ _ _ _ b8.out]; rfl
      have c1 : w8.cell? ⟨w3.heap.size, 1, none⟩ = some (.int .i64 t) := by rw [cell_of_row _ _ _ _ _ _ b8.out]; rfl
      have c2 : w8.cell? ⟨w3.heap.size, 2, none⟩ = some (.int .i64 1) := by rw [cell_of_row _ _ _ _ _ _ b8.out]; rfl
      have c3 : w8.cell? ⟨w3.heap.size, 3, none⟩ = some (.string u) := by rw [cell_of_row _ _ _ _ _ _ b8.out]; rfl
      have c4 : w8.cell? ⟨w3.heap.size, 4, none⟩ = some (.slice none 0 0) := by rw [cell_of_row _ _ _ _ _ _ b8.out]; rfl
      have c5 : w8.cell? ⟨w3.heap.size, 5, none⟩ = some (.slice none 0 0) := by rw [cell_of_row _ _ _ _ _ _ b8.out]; rfl
      have c6 : w8.cell? ⟨w3.heap.size, 6, none⟩ = some (.slice none 0 0) := by rw [cell_of_row _ _ _ _ _ _ b8.out]; rfl
      have d0 : w8.cell? ⟨w.heap.size, 0, none⟩ = some (.string ⟨#[]⟩) := by rw [cell_of_row _ _ _ _ _ _ q8.out]; rfl
      have d1 : w8.cell? ⟨w.heap.size, 1, none⟩ = some (.int .i64 0) := by rw [cell_of_row _ _ _ _ _ _ q8.out]; rfl
      have d2 : w8.cell? ⟨w.heap.size, 2, none⟩ = some (.int .i64 0) := by rw [cell_of_row _ _ _ _ _ _ q8.out]; rfl
      have d3 : w8.cell? ⟨w.heap.size, 3, none⟩ = some (.string ⟨#[]⟩) := by rw [cell_of_row _ _ _ _ _ _ q8.out]; rfl
      have d4 : w8.cell? ⟨w.heap.size, 4, none⟩ = some (.slice none 0 0) := by rw [cell_of_row _ _ _ _ _ _ q8.out]; rfl
      have d5 : w8.cell? ⟨w.heap.size, 5, none⟩ = some (.slice none 0 0) := by rw [cell_of_row _ _ _ _ _ _ q8.out]; rfl
      have d6 : w8.cell? ⟨w.heap.size, 6, none⟩ = some (.slice none 0 0) := by rw [cell_of_row _ _ _ _ _ _ q8.out]; rfl
      have f0 : ∀ o, w8.frozen? ⟨w.heap.size, o, none⟩ = false := fun o => by simp [World.frozen?, q8.out]
      have f1 : ∀ o, w8.frozen? ⟨w3.heap.size, o, none⟩ = false := fun o => by simp [World.frozen?, b8.out]
      clear hR7 hG7 hg8 q7 b7 h37 hR8 hG8 h38
      have HQ : Hid _ := q8b.out
      go_wp2_with fail
      refine bodyPost_ret (results_cell_row rfl _ _ w.heap.size 27 _ (0, 0) _ rfl (box7_setc HQ.out _ _ _ _ _ _ _) Try.underlying27 rfl (by kernel_rfl)) rfl ?_
      have e3 := all7 (fun W => En3 W (w3.heap.size + 1) (.slice none 0 0) (.slice none 0 0) (.slice none 0 0) ⟨s, t, y, u, [], [], []⟩) w.heap.size (fun W o u h => en3_grown h (cell_grown W _ u) (by show w.heap.size < _; omega)) h38b
      have eG := all7 (fun W => w.grownBy W (some r)) w.heap.size (fun W o u h => grown_base h ((Below.refl w.heap.size W).setCell (p := ⟨w.heap.size, o, none⟩) (Nat.le_refl _) u)) hG8b
      exact ⟨⟨⟨s, t, y, u, [], [], []⟩, _, _, _, w3.heap.size + 1, rfl, by omega, e3 _ _ _ _ _ _ _, ⟨by show s.size ≤ 1000; omega, by show u.size ≤ 1000; omega, by simp, by simp, by simp⟩⟩, eG _ _ _ _ _ _ _⟩
    · have hy' : (y == 0) = false := by simpa using hy
      clear hy
      have c0 : w7.cell? ⟨w3.heap.size, 0, none⟩ = some (.string s) := by rw [cell_of_row _ _ _ _ _ _ b7.out]; rfl
      have c1 : w7.cell? ⟨w3.heap.size, 1, none⟩ = some (.int .i64 t) := by rw [cell_of_row _ _ _ _ _ _ b7.out]; rfl
      have c2 : w7.cell? ⟨w3.heap.size, 2, none⟩ = some (.int .i64 1) := by rw [cell_of_row _ _ _ _ _ _ b7.out]; rfl
      have c3 : w7.cell? ⟨w3.heap.size, 3, none⟩ = some (.string u) := by rw [cell_of_row _ _ _ _ _ _ b7.out]; rfl
      have c4 : w7.cell? ⟨w3.heap.size, 4, none⟩ = some (.slice none 0 0) := by rw [cell_of_row _ _ _ _ _ _ b7.out]; rfl
      have c5 : w7.cell? ⟨w3.heap.size, 5, none⟩ = some (.slice none 0 0) := by rw [cell_of_row _ _ _ _ _ _ b7.out]; rfl
      have c6 : w7.cell? ⟨w3.heap.size, 6, none⟩ = some (.slice none 0 0) := by rw [cell_of_row _ _ _ _ _ _ b7.out]; rfl
      have d0 : w7.cell? ⟨w.heap.size, 0, none⟩ = some (.string ⟨#[]⟩) := by rw [cell_of_row _ _ _ _ _ _ q7.out]; rfl
      have d1 : w7.cell? ⟨w.heap.size, 1, none⟩ = some (.int .i64 0) := by rw [cell_of_row _ _ _ _ _ _ q7.out]; rfl
      have d2 : w7.cell? ⟨w.heap.size, 2, none⟩ = some (.int .i64 0) := by rw [cell_of_row _ _ _ _ _ _ q7.out]; rfl
      have d3 : w7.cell? ⟨w.heap.size, 3, none⟩ = some (.string ⟨#[]⟩) := by rw [cell_of_row _ _ _ _ _ _ q7.out]; rfl
      have d4 : w7.cell? ⟨w.heap.size, 4, none⟩ = some (.slice none 0 0) := by rw [cell_of_row _ _ _ _ _ _ q7.out]; rfl
      have d5 : w7.cell? ⟨w.heap.size, 5, none⟩ = some (.slice none 0 0) := by rw [cell_of_row _ _ _ _ _ _ q7.out]; rfl
      have d6 : w7.cell? ⟨w.heap.size, 6, none⟩ = some (.slice none 0 0) := by rw [cell_of_row _ _ _ _ _ _ q7.out]; rfl
      have f0 : ∀ o, w7.frozen? ⟨w.heap.size, o, none⟩ = false := fun o => by simp [World.frozen?, q7.out]
      have f1 : ∀ o, w7.frozen? ⟨w3.heap.size, o, none⟩ = false := fun o => by simp [World.frozen?, b7.out]
      have HQ : Hid _ := q7.out
      go_wp2_with fail
      refine bodyPost_ret (results_cell_row rfl _ _ w.heap.size 27 _ (0, 0) _ rfl (box7_setc HQ.out _ _ _ _ _ _ _) Try.underlying27 rfl (by kernel_rfl)) rfl ?_
      have e3 := all7 (fun W => En3 W (w3.heap.size + 1) (.slice none 0 0) (.slice none 0 0) (.slice none 0 0) ⟨s, t, 1, u, [], [], []⟩) w.heap.size (fun W o u h => en3_grown h (cell_grown W _ u) (by show w.heap.size < _; omega)) h37
      have eG := all7 (fun W => w.grownBy W (some r)) w.heap.size (fun W o u h => grown_base h ((Below.refl w.heap.size W).setCell (p := ⟨w.heap.size, o, none⟩) (Nat.le_refl _) u)) hG7
      exact ⟨⟨⟨s, t, 1, u, [], [], []⟩, _, _, _, w3.heap.size + 1, rfl, by omega, e3 _ _ _ _ _ _ _, ⟨by show s.size ≤ 1000; omega, by show u.size ≤ 1000; omega, by simp, by simp, by simp⟩⟩, eG _ _ _ _ _ _ _⟩
  ·
    go_wp2_with fail
    obtain ⟨w4, hW⟩ : ∃ W, w3.alloc (.cells #[.string s, .int .i64 t, .int .i64 2, .string ⟨#[]⟩, .slice none 0 0, .slice none 0 0, .slice none 0 0] 27) = W := ⟨_, rfl⟩
    have hb4 : Below w3.heap.size w3 w4 := by rw [← hW]; exact (Below.refl _ _).alloc (Nat.le_refl _) _
    have hz4 : w4.heap.size = w3.heap.size + 1 := by rw [← hW]; simp
    have b4 : Hid (w4.heap[w3.heap.size]? = some (.cells #[.string s, .int .i64 t, .int .i64 2, .string ⟨#[]⟩, .slice none 0 0, .slice none 0 0, .slice none 0 0] 27 (0, 0))) := by show _ = _; rw [← hW]; exact heap_alloc_new _ _
    have q4 : Hid _ := row_below q3.out hb4 (by omega)
    have hR4 := rd_grown hR3 hb4
    have hG4 : w.grownBy w4 (some r) := grown_base hG3 (hb4.mono (by omega))
    rw [hW]
    clear hW hb4 hR3 hG3 q3
    refine (anyTexts_draw r _ v zs _ hR4 (by omega)).mono ?_
    rintro e w5 ⟨u, L, q, rfl, ho, hL, _, hR5, hq, hg5⟩
    obtain ⟨au, cu, rfl⟩ := reads_shape (owns_reads ho)
    have hG5 := grown_trans2 hG4 hg5
    have q5 : Hid _ := row_grown q4.out hg5 (by omega)
    have b5 : Hid _ := row_grown b4.out hg5 (by omega)
    have hz5 := hg5.size
    rw [hz4] at hz5
    clear hR4 hG4 hg5 q4 b4
    have c4 : w5.cell? ⟨w3.heap.size, 4, none⟩ = _ := cell_of_row _ _ _ _ _ _ b5.out
    have f4 : w5.frozen? ⟨w3.heap.size, 4, none⟩ = false := by simp [World.frozen?, b5.out]
    go_wp2_with fail
    clear c4 f4
    obtain ⟨w6, hW⟩ : ∃ W, w5.setCell ⟨w3.heap.size, 4, none⟩ (.slice au L.length cu) = W := ⟨_, rfl⟩
    have b6 : Hid (w6.heap[w3.heap.size]? = some (.cells #[.string s, .int .i64 t, .int .i64 2, .string ⟨#[]⟩, .slice au L.length cu, .slice none 0 0, .slice none 0 0] 27 (0, 0))) := by show _ = _; rw [← hW, heap_setCell_same _ _ 4 _ _ _ b5.out]; rfl
    have hgc : w5.grownBy w6 (some w3.heap.size) := by rw [← hW]; exact cell_grown _ _ _
    have q6 : Hid _ := row_grown q5.out hgc (by omega)
    have hG6 : w.grownBy w6 (some r) := by rw [← hW]; exact grown_base hG5 ((Below.refl w.heap.size w5).setCell (by show w.heap.size ≤ w3.heap.size; omega) _)
    have hR6 := rd_kept hR5 (show Below w3.heap.size w5 w6 by rw [← hW]; exact (Below.refl w3.heap.size w5).setCell (Nat.le_refl _) _) (by omega)
    rw [hz4] at ho
    have h36 : En3 w6 (w3.heap.size + 1) (.slice au L.length cu) (.slice none 0 0) (.slice none 0 0) ⟨s, t, 2, ⟨#[]⟩, L, [], []⟩ := ⟨World.ownsRow.kept ho hgc (ne_of_lt ho (by omega)), World.ownsRow_nil _ _ _ _, World.ownsRow_nil _ _ _ _⟩
    have hz6 : w6.heap.size = w5.heap.size := by rw [← hW]; exact setc_size _ _ _
    rw [hW]
    clear hW hgc hR5 hG5 q5 b5 ho
    refine (pick_any r _ v zs 16 _ hR6 (by omega) (by omega) (by omega)).mono ?_
    rintro e w7 ⟨y, rfl, hy0, hy1, hR7, hg7⟩
    have hG7 := grown_trans2 hG6 hg7
    have q7 : Hid _ := row_grown q6.out hg7 (by omega)
    have b7 : Hid _ := row_grown b6.out hg7 (by omega)
    have h37 := en3_grown h36 hg7 (by omega)
    have hz7 := hg7.size
    clear hR6 hG6 hg7 q6 b6 h36
    by_cases hy : y = 0
    · subst hy
      have c0 : w7.cell? ⟨w3.heap.size, 0, none⟩ = some (.string s) := by rw [cell_of_row _ _ _ _ _ _ b7.out]; rfl
      have c1 : w7.cell? ⟨w3.heap.size, 1, none⟩ = some (.int .i64 t) := by rw [cell_of_row _ _ _ _ _ _ b7.out]; rfl
      have c2 : w7.cell? ⟨w3.heap.size, 2, none⟩ = some (.int .i64 2) := by rw [cell_of_row _ _ _ _ _ _ b7.out]; rfl
      have c3 : w7.cell? ⟨w3.heap.size, 3, none⟩ = some (.string ⟨#[]⟩) := by rw [cell_of_row _ _ _ _ _ _ b7.out]; rfl
      have c4 : w7.cell? ⟨w3.heap.size, 4, none⟩ = some (.slice au L.length cu) := by rw [cell_of_row _ _ _ _ _ _ b7.out]; rfl
      have c5 : w7.cell? ⟨w3.heap.size, 5, none⟩ = some (.slice none 0 0) := by rw [cell_of_row _ _ _ _ _ _ b7.out]; rfl
      have c6 : w7.cell? ⟨w3.heap.size, 6, none⟩ = some (.slice none 0 0) := by rw [cell_of_row _ _ _ _ _ _ b7.out]; rfl
      have d0 : w7.cell? ⟨w.heap.size, 0, none⟩ = some (.string ⟨#[]⟩) := by rw [cell_of_row _ _ _ _ _ _ q7.out]; rfl
      have d1 : w7.cell? ⟨w.heap.size, 1, none⟩ = some (.int .i64 0) := by rw [cell_of_row _ _ _ _ _ _ q7.out]; rfl
      have d2 : w7.cell? ⟨w.heap.size, 2, none⟩ = some (.int .i64 0) := by rw [cell_of_row _ _ _ _ _ _ q7.out]; rfl
      have d3 : w7.cell? ⟨w.heap.size, 3, none⟩ = some (.string ⟨#[]⟩) := by rw [cell_of_row _ _ _ _ _ _ q7.out]; rfl
      have d4 : w7.cell? ⟨w.heap.size, 4, none⟩ = some (.slice none 0 0) := by rw [cell_of_row _ _ _ _ _ _ q7.out]; rfl
      have d5 : w7.cell? ⟨w.heap.size, 5, none⟩ = some (.slice none 0 0) := by rw [cell_of_row _ _ _ _ _ _ q7.out]; rfl
      have d6 : w7.cell? ⟨w.heap.size, 6, none⟩ = some (.slice none 0 0) := by rw [cell_of_row _ _ _ _ _ _ q7.out]; rfl
      have f0 : ∀ o, w7.frozen? ⟨w.heap.size, o, none⟩ = false := fun o => by simp [World.frozen?, q7.out]
      have f1 : ∀ o, w7.frozen? ⟨w3.heap.size, o, none⟩ = false := fun o => by simp [World.frozen?, b7.out]
      go_wp2_with fail
      clear c0 c1 c2 c3 c4 c5 c6 d0 d1 d2 d3 d4 d5 d6 f0 f1
      refine (pick_any r _ v zs 7 _ hR7 (by omega) (by omega) (by omega)).mono ?_
      rintro e w8 ⟨y, rfl, hy0, hy1, hR8, hg8⟩
      have hG8 := grown_trans2 hG7 hg8
      have q8 : Hid _ := row_grown q7.out hg8 (by omega)
      have b8 : Hid _ := row_grown b7.out hg8 (by omega)
      have h38 := en3_grown h37 hg8 (by omega)
      have hz8 := hg8.size
      have q8b : Hid _ := row_grown q8.out (cell_grown w8 ⟨w3.heap.size, 2, none⟩ (.int .i64 y)) (by show w.heap.size ≠ w3.heap.size; omega)
      have h38b : En3 (w8.setCell ⟨w3.heap.size, 2, none⟩ (.int .i64 y)) (w3.heap.size + 1) (.slice au L.length cu) (.slice none 0 0) (.slice none 0 0) ⟨s, t, y, ⟨#[]⟩, L, [], []⟩ := en3_grown h38 (cell_grown w8 ⟨w3.heap.size, 2, none⟩ (.int .i64 y)) (by show w3.heap.size < _; omega)
      have hG8b := grown_base hG8 ((Below.refl w.heap.size w8).setCell (p := ⟨w3.heap.size, 2, none⟩) (by show w.heap.size ≤ w3.heap.size; omega) (.int .i64 y))
      have c0 : w8.cell? ⟨w3.heap.size, 0, none⟩ = some (.string s) := by rw [cell_of_row _ _ _ _ _ _ b8.out]; rfl
      have c1 : w8.cell? ⟨w3.heap.size, 1, none⟩ = some (.int .i64 t) := by rw [cell_of_row _ _ _ _ _ _ b8.out]; rfl
      have c2 : w8.cell? ⟨w3.heap.size, 2, none⟩ = some (.int .i64 2) := by rw [cell_of_row _ _ _ _ _ _ b8.out]; rfl
      have c3 : w8.cell? ⟨w3.heap.size, 3, none⟩ = some (.string ⟨#[]⟩) := by rw [cell_of_row _ _ _ _ _ _ b8.out]; rfl
      have c4 : w8.cell? ⟨w3.heap.size, 4, none⟩ = some (.slice au L.length cu) := by rw [cell_of_row _ _ _ _ _ _ b8.out]; rfl
      have c5 : w8.cell? ⟨w3.heap.size, 5, none⟩ = some (.slice none 0 0) := by rw [cell_of_row _ _ _ _ _ _ b8.out]; rfl
      have c6 : w8.cell? ⟨w3.heap.size, 6, none⟩ = some (.slice none 0 0) := by rw [cell_of_row _ _ _ _ _ _ b8.out]; rfl
      have d0 : w8.cell? ⟨w.heap.size, 0, none⟩ = some (.string ⟨#[]⟩) := by rw [cell_of_row _ _ _ _ _ _ q8.out]; rfl
      have d1 : w8.cell? ⟨w.heap.size, 1, none⟩ = some (.int .i64 0) := by rw [cell_of_row _ _ _ _ _ _ q8.out]; rfl
      have d2 : w8.cell? ⟨w.heap.size, 2, none⟩ = some (.int .i64 0) := by rw [cell_of_row _ _ _ _ _ _ q8.out]; rfl
      have d3 : w8.cell? ⟨w.heap.size, 3, none⟩ = some (.string ⟨#[]⟩) := by rw [cell_of_row _ _ _ _ _ _ q8.out]; rfl
      have d4 : w8.cell? ⟨w.heap.size, 4, none⟩ = some (.slice none 0 0) := by rw [cell_of_row _ _ _ _ _ _ q8.out]; rfl
      have d5 : w8.cell? ⟨w.heap.size, 5, none⟩ = some (.slice none 0 0) := by rw [cell_of_row _ _ _ _ _ _ q8.out]; rfl
      have d6 : w8.cell? ⟨w.heap.size, 6, none⟩ = some (.slice none 0 0) := by rw [cell_of_row _ _ _ _ _ _ q8.out]; rfl
      have f0 : ∀ o, w8.frozen? ⟨w.heap.size, o, none⟩ = false := fun o => by simp [World.frozen?, q8.out]
      have f1 : ∀ o, w8.frozen? ⟨w3.heap.size, o, none⟩ = false := fun o => by simp [World.frozen?, b8.out]
      clear hR7 hG7 hg8 q7 b7 h37 hR8 hG8 h38
      have HQ : Hid _ := q8b.out
      go_wp2_with fail
      refine bodyPost_ret (results_cell_row rfl _ _ w.heap.size 27 _ (0, 0) _ rfl (box7_setc HQ.out _ _ _ _ _ _ _) Try.underlying27 rfl (by kernel_rfl)) rfl ?_
      have e3 := all7 (fun W => En3 W (w3.heap.size + 1) (.slice au L.length cu) (.slice none 0 0) (.slice none 0 0) ⟨s, t, y, ⟨#[]⟩, L, [], []⟩) w.heap.size (fun W o u h => en3_grown h (cell_grown W _ u) (by show w.heap.size < _; omega)) h38b
      have eG := all7 (fun W => w.grownBy W (some r)) w.heap.size (fun W o u h => grown_base h ((Below.refl w.heap.size W).setCell (p := ⟨w.heap.size, o, none⟩) (Nat.le_refl _) u)) hG8b
      exact ⟨⟨⟨s, t, y, ⟨#[]⟩, L, [], []⟩, _, _, _, w3.heap.size + 1, rfl, by omega, e3 _ _ _ _ _ _ _, ⟨by show s.size ≤ 1000; omega, by show 0 ≤ 1000; omega, by show L.length ≤ 1000; omega, by simp, by simp⟩⟩, eG _ _ _ _ _ _ _⟩
    · have hy' : (y == 0) = false := by simpa using hy
      clear hy
      have c0 : w7.cell? ⟨w3.heap.size, 0, none⟩ = some (.string s) := by rw [cell_of_row _ _ _ _ _ _ b7.out]; rfl
      have c1 : w7.cell? ⟨w3.heap.size, 1, none⟩ = some (.int .i64 t) := by rw [cell_of_row _ _ _ _ _ _ b7.out]; rfl
      have c2 : w7.cell? ⟨w3.heap.size, 2, none⟩ = some (.int .i64 2) := by rw [cell_of_row _ _ _ _ _ _ b7.out]; rfl
      have c3 : w7.cell? ⟨w3.heap.size, 3, none⟩ = some (.string ⟨#[]⟩) := by rw [cell_of_row _ _ _ _ _ _ b7.out]; rfl
      have c4 : w7.cell? ⟨w3.heap.size, 4, none⟩ = some (.slice au L.length cu) := by rw [cell_of_row _ _ _ _ _ _ b7.out]; rfl
      have c5 : w7.cell? ⟨w3.heap.size, 5, none⟩ = some (.slice none 0 0) := by rw [cell_of_row _ _ _ _ _ _ b7.out]; rfl
      have c6 : w7.cell? ⟨w3.heap.size, 6, none⟩ = some (.slice none 0 0) := by rw [cell_of_row _ _ _ _ _ _ b7.out]; rfl
      have d0 : w7.cell? ⟨w.heap.size, 0, none⟩ = some (.string ⟨#[]⟩) := by rw [cell_of_row _ _ _ _ _ _ q7.out]; rfl
      have d1 : w7.cell? ⟨w.heap.size, 1, none⟩ = some (.int .i64 0) := by rw [cell_of_row _ _ _ _ _ _ q7.out]; rfl
      have d2 : w7.cell? ⟨w.heap.size, 2, none⟩ = some (.int .i64 0) := by rw [cell_of_row _ _ _ _ _ _ q7.out]; rfl
      have d3 : w7.cell? ⟨w.heap.size, 3, none⟩ = some (.string ⟨#[]⟩) := by rw [cell_of_row _ _ _ _ _ _ q7.out]; rfl
      have d4 : w7.cell? ⟨w.heap.size, 4, none⟩ = some (.slice none 0 0) := by rw [cell_of_row _ _ _ _ _ _ q7.out]; rfl
      have d5 : w7.cell? ⟨w.heap.size, 5, none⟩ = some (.slice none 0 0) := by rw [cell_of_row _ _ _ _ _ _ q7.out]; rfl
      have d6 : w7.cell? ⟨w.heap.size, 6, none⟩ = some (.slice none 0 0) := by rw [cell_of_row _ _ _ _ _ _ q7.out]; rfl
      have f0 : ∀ o, w7.frozen? ⟨w.heap.size, o, none⟩ = false := fun o => by simp [World.frozen?, q7.out]
      have f1 : ∀ o, w7.frozen? ⟨w3.heap.size, o, none⟩ = false := fun o => by simp [World.frozen?, b7.out]
      have HQ : Hid _ := q7.out
      go_wp2_with fail
      refine bodyPost_ret (results_cell_row rfl _ _ w.heap.size 27 _ (0, 0) _ rfl (box7_setc HQ.out _ _ _ _ _ _ _) Try.underlying27 rfl (by kernel_rfl)) rfl ?_
      have e3 := all7 (fun W => En3 W (w3.heap.size + 1) (.slice au L.length cu) (.slice none 0 0) (.slice none 0 0) ⟨s, t, 2, ⟨#[]⟩, L, [], []⟩) w.heap.size (fun W o u h => en3_grown h (cell_grown W _ u) (by show w.heap.size < _; omega)) h37
      have eG := all7 (fun W => w.grownBy W (some r)) w.heap.size (fun W o u h => grown_base h ((Below.refl w.heap.size W).setCell (p := ⟨w.heap.size, o, none⟩) (Nat.le_refl _) u)) hG7
      exact ⟨⟨⟨s, t, 2, ⟨#[]⟩, L, [], []⟩, _, _, _, w3.heap.size + 1, rfl, by omega, e3 _ _ _ _ _ _ _, ⟨by show s.size ≤ 1000; omega, by show 0 ≤ 1000; omega, by show L.length ≤ 1000; omega, by simp, by simp⟩⟩, eG _ _ _ _ _ _ _⟩
  ·
    go_wp2_with fail
    obtain ⟨w4, hW⟩ : ∃ W, w3.alloc (.cells #[.string s, .int .i64 t, .int .i64 3, .string ⟨#[]⟩, .slice none 0 0, .slice none 0 0, .slice none 0 0] 27) = W := ⟨_, rfl⟩
    have hb4 : Below w3.heap.size w3 w4 := by rw [← hW]; exact (Below.refl _ _).alloc (Nat.le_refl _) _
    have hz4 : w4.heap.size = w3.heap.size + 1 := by rw [← hW]; simp
    have b4 : Hid (w4.heap[w3.heap.size]? = some (.cells #[.string s, .int .i64 t, .int .i64 3, .string ⟨#[]⟩, .slice none 0 0, .slice none 0 0, .slice none 0 0] 27 (0, 0))) := by show _ = _; rw [← hW]; exact heap_alloc_new _ _
    have q4 : Hid _ := row_below q3.out hb4 (by omega)
    have hR4 := rd_grown hR3 hb4
    have hG4 : w.grownBy w4 (some r) := grown_base hG3 (hb4.mono (by omega))
    rw [hW]
    clear hW hb4 hR3 hG3 q3
    refine (anySet_draw r _ v zs _ hR4 (by omega)).mono ?_
    rintro e w5 ⟨u, L, q, rfl, ho, hL, hR5, hq, hg5⟩
    obtain ⟨au, cu, rfl⟩ := reads_shape (owns_reads ho)
    have hG5 := grown_trans2 hG4 hg5
    have q5 : Hid _ := row_grown q4.out hg5 (by omega)
    have b5 : Hid _ := row_grown b4.out hg5 (by omega)
    have hz5 := hg5.size
    rw [hz4] at hz5
    clear hR4 hG4 hg5 q4 b4
    have c4 : w5.cell? ⟨w3.heap.size, 4, none⟩ = _ := cell_of_row _ _ _ _ _ _ b5.out
    have f4 : w5.frozen? ⟨w3.heap.size, 4, none⟩ = false := by simp [World.frozen?, b5.out]
    go_wp2_with fail
    clear c4 f4
    obtain ⟨w6, hW⟩ : ∃ W, w5.setCell ⟨w3.heap.size, 4, none⟩ (.slice au L.length cu) = W := ⟨_, rfl⟩
    have b6 : Hid (w6.heap[w3.heap.size]? = some (.cells #[.string s, .int .i64 t, .int .i64 3, .string ⟨#[]⟩, .slice au L.length cu, .slice none 0 0, .slice none 0 0] 27 (0, 0))) := by show _ = _; rw [← hW, heap_setCell_same _ _ 4 _ _ _ b5.out]; rfl
    have hgc : w5.grownBy w6 (some w3.heap.size) := by rw [← hW]; exact cell_grown _ _ _
    have q6 : Hid _ := row_grown q5.out hgc (by omega)
    have hG6 : w.grownBy w6 (some r) := by rw [← hW]; exact grown_base hG5 ((Below.refl w.heap.size w5).setCell (by show w.heap.size ≤ w3.heap.size; omega) _)
    have hR6 := rd_kept hR5 (show Below w3.heap.size w5 w6 by rw [← hW]; exact (Below.refl w3.heap.size w5).setCell (Nat.le_refl _) _) (by omega)
    rw [hz4] at ho
    have h36 : En3 w6 (w3.heap.size + 1) (.slice au L.length cu) (.slice none 0 0) (.slice none 0 0) ⟨s, t, 3, ⟨#[]⟩, L, [], []⟩ := ⟨World.ownsRow.kept ho hgc (ne_of_lt ho (by omega)), World.ownsRow_nil _ _ _ _, World.ownsRow_nil _ _ _ _⟩
    have hz6 : w6.heap.size = w5.heap.size := by rw [← hW]; exact setc_size _ _ _
    rw [hW]
    clear hW hgc hR5 hG5 q5 b5 ho
    refine (pick_any r _ v zs 16 _ hR6 (by omega) (by omega) (by omega)).mono ?_
    rintro e w7 ⟨y, rfl, hy0, hy1, hR7, hg7⟩
    have hG7 := grown_trans2 hG6 hg7
    have q7 : Hid _ := row_grown q6.out hg7 (by omega)
    have b7 : Hid _ := row_grown b6.out hg7 (by omega)
    have h37 := en3_grown h36 hg7 (by omega)
    have hz7 := hg7.size
    clear hR6 hG6 hg7 q6 b6 h36
    by_cases hy : y = 0
    · subst hy
      have c0 : w7.cell? ⟨w3.heap.size, 0, none⟩ = some (.string s) := by rw [cell_of_row _ _ _ _ _ _ b7.out]; rfl
      have c1 : w7.cell? ⟨w3.heap.size, 1, none⟩ = some (.int .i64 t) := by rw [cell_of_row _ _ _ _ _ _ b7.out]; rfl
      have c2 : w7.cell? ⟨w3.heap.size, 2, none⟩ = some (.int .i64 3) := by rw [cell_of_row _ _ _ _ _ _ b7.out]; rfl
      have c3 : w7.cell? ⟨w3.heap.size, 3, none⟩ = some (.string ⟨#[]⟩) := by rw [cell_of_row _ _ _ _ _ _ b7.out]; rfl
      have c4 : w7.cell? ⟨w3.heap.size, 4, none⟩ = some (.slice au L.length cu) := by rw [cell_of_row _ _ _ _ _ _ b7.out]; rfl
      have c5 : w7.cell? ⟨w3.heap.size, 5, none⟩ = some (.slice none 0 0) := by rw [cell_of_row _ _ _ _ _ _ b7.out]; rfl
      have c6 : w7.cell? ⟨w3.heap.size, 6, none⟩ = some (.slice none 0 0) := by rw [cell_of_row _ _ _ _ _ _ b7.out]; rfl
      have d0 : w7.cell? ⟨w.heap.size, 0, none⟩ = some (.string ⟨#[]⟩) := by rw [cell_of_row _ _ _ _ _ _ q7.out]; rfl
      have d1 : w7.cell? ⟨w.heap.size, 1, none⟩ = some (.int .i64 0) := by rw [cell_of_row _ _ _ _ _ _ q7.out]; rfl
      have d2 : w7.cell? ⟨w.heap.size, 2, none⟩ = some (.int .i64 0) := by rw [cell_of_row _ _ _ _ _ _ q7.out]; rfl
      have d3 : w7.cell? ⟨w.heap.size, 3, none⟩ = some (.string ⟨#[]⟩) := by rw [cell_of_row _ _ _ _ _ _ q7.out]; rfl
      have d4 : w7.cell? ⟨w.heap.size, 4, none⟩ = some (.slice none 0 0) := by rw [cell_of_row _ _ _ _ _ _ q7.out]; rfl
      have d5 : w7.cell? ⟨w.heap.size, 5, none⟩ = some (.slice none 0 0) := by rw [cell_of_row _ _ _ _ _ _ q7.out]; rfl
      have d6 : w7.cell? ⟨w.heap.size, 6, none⟩ = some (.slice none 0 0) := by rw [cell_of_row _ _ _ _ _ _ q7.out]; rfl
      have f0 : ∀ o, w7.frozen? ⟨w.heap.size, o, none⟩ = false := fun o => by simp [World.frozen?, q7.out]
      have f1 : ∀ o, w7.frozen? ⟨w3.heap.size, o, none⟩ = false := fun o => by simp [World.frozen?, b7.out]
      go_wp2_with fail
      clear c0 c1 c2 c3 c4 c5 c6 d0 d1 d2 d3 d4 d5 d6 f0 f1
      refine (pick_any r _ v zs 7 _ hR7 (by omega) (by omega) (by omega)).mono ?_
      rintro e w8 ⟨y, rfl, hy0, hy1, hR8, hg8⟩
      have hG8 := grown_trans2 hG7 hg8
      have q8 : Hid _ := row_grown q7.out hg8 (by omega)
      have b8 : Hid _ := row_grown b7.out hg8 (by omega)
      have h38 := en3_grown h37 hg8 (by omega)
      have hz8 := hg8.size
      have q8b : Hid _ := row_grown q8.out (cell_grown w8 ⟨w3.heap.size, 2, none⟩ (.int .i64 y)) (by show w.heap.size ≠ w3.heap.size; omega)
      have h38b : En3 (w8.setCell ⟨w3.heap.size, 2, none⟩ (.int .i64 y)) (w3.heap.size + 1) (.slice au L.length cu) (.slice none 0 0) (.slice none 0 0) ⟨s, t, y, ⟨#[]⟩, L, [], []⟩ := en3_grown h38 (cell_grown w8 ⟨w3.heap.size, 2, none⟩ (.int .i64 y)) (by show w3.heap.size < _; omega)
      have hG8b := grown_base hG8 ((Below.refl w.heap.size w8).setCell (p := ⟨w3.heap.size, 2, none⟩) (by show w.heap.size ≤ w3.heap.size; omega) (.int .i64 y))
      have c0 : w8.cell? ⟨w3.heap.size, 0, none⟩ = some (.string s) := by rw [cell_of_row _ _ _ _ _ _ b8.out]; rfl
      have c1 : w8.cell? ⟨w3.heap.size, 1, none⟩ = some (.int .i64 t) := by rw [cell_of_row _ _ _ _ _ _ b8.out]; rfl
      have c2 : w8.cell? ⟨w3.heap.size, 2, none⟩ = some (.int .i64 3) := by rw [cell_of_row _ _ _ _ _ _ b8.out]; rfl
      have c3 : w8.cell? ⟨w3.heap.size, 3, none⟩ = some (.string ⟨#[]⟩) := by rw [cell_of_row _ _ _ _ _ _ b8.out]; rfl
      have c4 : w8.cell? ⟨w3.heap.size, 4, none⟩ = some (.slice au L.length cu) := by rw [cell_of_row _ _ _ _ _ _ b8.out]; rfl
      have c5 : w8.cell? ⟨w3.heap.size, 5, none⟩ = some (.slice none 0 0) := by rw [cell_of_row _ _ _ _ _ _ b8.out]; rfl
      have c6 : w8.cell? ⟨w3.heap.size, 6, none⟩ = some (.slice none 0 0) := by rw [cell_of_row _ _ _ _ _ _ b8.out]; rfl
      have d0 : w8.cell? ⟨w.heap.size, 0, none⟩ = some (.string ⟨#[]⟩) := by rw [cell_of_row _ _ _ _ _ _ q8.out]; rfl
      have d1 : w8.cell? ⟨w.heap.size, 1, none⟩ = some (.int .i64 0) := by rw [cell_of_row _ _ _ _ _ _ q8.out]; rfl
      have d2 : w8.cell? ⟨w.heap.size, 2, none⟩ = some (.int .i64 0) := by rw [cell_of_row _ _ _ _ _ _ q8.out]; rfl
      have d3 : w8.cell? ⟨w.heap.size, 3, none⟩ = some (.string ⟨#[]⟩) := by rw [cell_of_row _ _ _ _ _ _ q8.out]; rfl
      have d4 : w8.cell? ⟨w.heap.size, 4, none⟩ = some (.slice none 0 0) := by rw [cell_of_row _ _ _ _ _ _ q8.out]; rfl
      have d5 : w8.cell? ⟨w.heap.size, 5, none⟩ = some (.slice none 0 0) := by rw [cell_of_row _ _ _ _ _ _ q8.out]; rfl
      have d6 : w8.cell? ⟨w.heap.size, 6, none⟩ = some (.slice none 0 0) := by rw [cell_of_row _ _ _ _ _ _ q8.out]; rfl
      have f0 : ∀ o, w8.frozen? ⟨w.heap.size, o, none⟩ = false := fun o => by simp [World.frozen?, q8.out]
      have f1 : ∀ o, w8.frozen? ⟨w3.heap.size, o, none⟩ = false := fun o => by simp [World.frozen?, b8.out]
      clear hR7 hG7 hg8 q7 b7 h37 hR8 hG8 h38
      have HQ : Hid _ := q8b.out
      go_wp2_with fail
      refine bodyPost_ret (results_cell_row rfl _ _ w.heap.size 27 _ (0, 0) _ rfl (box7_setc HQ.out _ _ _ _ _ _ _) Try.underlying27 rfl (by kernel_rfl)) rfl ?_
      have e3 := all7 (fun W => En3 W (w3.heap.size + 1) (.slice au L.length cu) (.slice none 0 0) (.slice none 0 0) ⟨s, t, y, ⟨#[]⟩, L, [], []⟩) w.heap.size (fun W o u h => en3_grown h (cell_grown W _ u) (by show w.heap.size < _; omega)) h38b
      have eG := all7 (fun W => w.grownBy W (some r)) w.heap.size (fun W o u h => grown_base h ((Below.refl w.heap.size W).setCell (p := ⟨w.heap.size, o, none⟩) (Nat.le_refl _) u)) hG8b
      exact ⟨⟨⟨s, t, y, ⟨#[]⟩, L, [], []⟩, _, _, _, w3.heap.size + 1, rfl, by omega, e3 _ _ _ _ _ _ _, ⟨by show s.size ≤ 1000; omega, by show 0 ≤ 1000; omega, by show L.length ≤ 1000; omega, by simp, by simp⟩⟩, eG _ _ _ _ _ _ _⟩
    · have hy' : (y == 0) = false := by simpa using hy
      clear hy
      have c0 : w7.cell? ⟨w3.heap.size, 0, none⟩ = some (.string s) := by rw [cell_of_row _ _ _ _ _ _ b7.out]; rfl
      have c1 : w7.cell? ⟨w3.heap.size, 1, none⟩ = some (.int .i64 t) := by rw [cell_of_row _ _ _ _ _ _ b7.out]; rfl
      have c2 : w7.cell? ⟨w3.heap.size, 2, none⟩ = some (.int .i64 3) := by rw [cell_of_row _ _ _ _ _ _ b7.out]; rfl
      have c3 : w7.cell? ⟨w3.heap.size, 3, none⟩ = some (.string ⟨#[]⟩) := by rw [cell_of_row _ _ _ _ _ _ b7.out]; rfl
      have c4 : w7.cell? ⟨w3.heap.size, 4, none⟩ = some (.slice au L.length cu) := by rw [cell_of_row _ _ _ _ _ _ b7.out]; rfl
      have c5 : w7.cell? ⟨w3.heap.size, 5, none⟩ = some (.slice none 0 0) := by rw [cell_of_row _ _ _ _ _ _ b7.out]; rfl
      have c6 : w7.cell? ⟨w3.heap.size, 6, none⟩ = some (.slice none 0 0) := by rw [cell_of_row _ _ _ _ _ _ b7.out]; rfl
      have d0 : w7.cell? ⟨w.heap.size, 0, none⟩ = some (.string ⟨#[]⟩) := by rw [cell_of_row _ _ _ _ _ _ q7.out]; rfl
      have d1 : w7.cell? ⟨w.heap.size, 1, none⟩ = some (.int .i64 0) := by rw [cell_of_row _ _ _ _ _ _ q7.out]; rfl
      have d2 : w7.cell? ⟨w.heap.size, 2, none⟩ = some (.int .i64 0) := by rw [cell_of_row _ _ _ _ _ _ q7.out]; rfl
      have d3 : w7.cell? ⟨w.heap.size, 3, none⟩ = some (.string ⟨#[]⟩) := by rw [cell_of_row _ _ _ _ _ _ q7.out]; rfl
      have d4 : w7.cell? ⟨w.heap.size, 4, none⟩ = some (.slice none 0 0) := by rw [cell_of_row _ _ _ _ _ _ q7.out]; rfl
      have d5 : w7.cell? ⟨w.heap.size, 5, none⟩ = some (.slice none 0 0) := by rw [cell_of_row _ _ _ _ _ _ q7.out]; rfl
      have d6 : w7.cell? ⟨w.heap.size, 6, none⟩ = some (.slice none 0 0) := by rw [cell_of_row _ _ _ _ _ _ q7.out]; rfl
      have f0 : ∀ o, w7.frozen? ⟨w.heap.size, o, none⟩ = false := fun o => by simp [World.frozen?, q7.out]
      have f1 : ∀ o, w7.frozen? ⟨w3.heap.size, o, none⟩ = false := fun o => by simp [World.frozen?, b7.out]
      have HQ : Hid _ := q7.out
      go_wp2_with fail
      refine bodyPost_ret (results_cell_row rfl _ _ w.heap.size 27 _ (0, 0) _ rfl (box7_setc HQ.out _ _ _ _ _ _ _) Try.underlying27 rfl (by kernel_rfl)) rfl ?_
      have e3 := all7 (fun W => En3 W (w3.heap.size + 1) (.slice au L.length cu) (.slice none 0 0) (.slice none 0 0) ⟨s, t, 3, ⟨#[]⟩, L, [], []⟩) w.heap.size (fun W o u h => en3_grown h (cell_grown W _ u) (by show w.heap.size < _; omega)) h37
      have eG := all7 (fun W => w.grownBy W (some r)) w.heap.size (fun W o u h => grown_base h ((Below.refl w.heap.size W).setCell (p := ⟨w.heap.size, o, none⟩) (Nat.le_refl _) u)) hG7
      exact ⟨⟨⟨s, t, 3, ⟨#[]⟩, L, [], []⟩, _, _, _, w3.heap.size + 1, rfl, by omega, e3 _ _ _ _ _ _ _, ⟨by show s.size ≤ 1000; omega, by show 0 ≤ 1000; omega, by show L.length ≤ 1000; omega, by simp, by simp⟩⟩, eG _ _ _ _ _ _ _⟩
  ·
    go_wp2_with fail
    obtain ⟨w4, hW⟩ : ∃ W, w3.alloc (.cells #[.string s, .int .i64 t, .int .i64 4, .string ⟨#[]⟩, .slice none 0 0, .slice none 0 0, .slice none 0 0] 27) = W := ⟨_, rfl⟩
    have hb4 : Below w3.heap.size w3 w4 := by rw [← hW]; exact (Below.refl _ _).alloc (Nat.le_refl _) _
    have hz4 : w4.heap.size = w3.heap.size + 1 := by rw [← hW]; simp
    have b4 : Hid (w4.heap[w3.heap.size]? = some (.cells #[.string s, .int .i64 t, .int .i64 4, .string ⟨#[]⟩, .slice none 0 0, .slice none 0 0, .slice none 0 0] 27 (0, 0))) := by show _ = _; rw [← hW]; exact heap_alloc_new _ _
    have q4 : Hid _ := row_below q3.out hb4 (by omega)
    have hR4 := rd_grown hR3 hb4
    have hG4 : w.grownBy w4 (some r) := grown_base hG3 (hb4.mono (by omega))
    rw [hW]
    clear hW hb4 hR3 hG3 q3
    refine (anyScores_draw r _ v zs _ hR4 (by omega)).mono ?_
    rintro e w5 ⟨u, L, q, rfl, ho, hL, hR5, hq, hg5⟩
    obtain ⟨au, cu, rfl⟩ := readsR_shape (ownsR_reads scC_len ho)
    have hG5 := grown_trans2 hG4 hg5
    have q5 : Hid _ := row_grown q4.out hg5 (by omega)
    have b5 : Hid _ := row_grown b4.out hg5 (by omega)
    have hz5 := hg5.size
    rw [hz4] at hz5
    clear hR4 hG4 hg5 q4 b4
    have c5 : w5.cell? ⟨w3.heap.size, 5, none⟩ = _ := cell_of_row _ _ _ _ _ _ b5.out
    have f5 : w5.frozen? ⟨w3.heap.size, 5, none⟩ = false := by simp [World.frozen?, b5.out]
    go_wp2_with fail
    clear c5 f5
    obtain ⟨w6, hW⟩ : ∃ W, w5.setCell ⟨w3.heap.size, 5, none⟩ (.slice au L.length cu) = W := ⟨_, rfl⟩
    have b6 : Hid (w6.heap[w3.heap.size]? = some (.cells #[.string s, .int .i64 t, .int .i64 4, .string ⟨#[]⟩, .slice none 0 0, .slice au L.length cu, .slice none 0 0] 27 (0, 0))) := by show _ = _; rw [← hW, heap_setCell_same _ _ 5 _ _ _ b5.out]; rfl
    have hgc : w5.grownBy w6 (some w3.heap.size) := by rw [← hW]; exact cell_grown _ _ _
    have q6 : Hid _ := row_grown q5.out hgc (by omega)
    have hG6 : w.grownBy w6 (some r) := by rw [← hW]; exact grown_base hG5 ((Below.refl w.heap.size w5).setCell (by show w.heap.size ≤ w3.heap.size; omega) _)
    have hR6 := rd_kept hR5 (show Below w3.heap.size w5 w6 by rw [← hW]; exact (Below.refl w3.heap.size w5).setCell (Nat.le_refl _) _) (by omega)
    rw [hz4] at ho
    have h36 : En3 w6 (w3.heap.size + 1) (.slice none 0 0) (.slice au L.length cu) (.slice none 0 0) ⟨s, t, 4, ⟨#[]⟩, [], L, []⟩ := ⟨World.ownsRow_nil _ _ _ _, World.ownsRow.kept ho hgc (ne_of_lt ho (by omega)), World.ownsRow_nil _ _ _ _⟩
    have hz6 : w6.heap.size = w5.heap.size := by rw [← hW]; exact setc_size _ _ _
    rw [hW]
    clear hW hgc hR5 hG5 q5 b5 ho
    refine (pick_any r _ v zs 16 _ hR6 (by omega) (by omega) (by omega)).mono ?_
    rintro e w7 ⟨y, rfl, hy0, hy1, hR7, hg7⟩
    have hG7 := grown_trans2 hG6 hg7
    have q7 : Hid _ := row_grown q6.out hg7 (by omega)
    have b7 : Hid _ := row_grown b6.out hg7 (by omega)
    have h37 := en3_grown h36 hg7 (by omega)
    have hz7 := hg7.size
    clear hR6 hG6 hg7 q6 b6 h36
    by_cases hy : y = 0
    · subst hy
      have c0 : w7.cell? ⟨w3.heap.size, 0, none⟩ = some (.string s) := by rw [cell_of_row _ _ _ _ _ _ b7.out]; rfl
      have c1 : w7.cell? ⟨w3.heap.size, 1, none⟩ = some (.int .i64 t) := by rw [cell_of_row _ _ _ _ _ _ b7.out]; rfl
      have c2 : w7.cell? ⟨w3.heap.size, 2, none⟩ = some (.int .i64 4) := by rw [cell_of_row _ _ _ _ _ _ b7.out]; rfl
      have c3 : w7.cell? ⟨w3.heap.size, 3, none⟩ = some (.string ⟨#[]⟩) := by rw [cell_of_row _ _ _ _ _ _ b7.out]; rfl
      have c4 : w7.cell? ⟨w3.heap.size, 4, none⟩ = some (.slice none 0 0) := by rw [cell_of_row _ _ _ _ _ _ b7.out]; rfl
      have c5 : w7.cell? ⟨w3.heap.size, 5, none⟩ = some (.slice au L.length cu) := by rw [cell_of_row _ _ _ _ _ _ b7.out]; rfl
      have c6 : w7.cell? ⟨w3.heap.size, 6, none⟩ = some (.slice none 0 0) := by rw [cell_of_row _ _ _ _ _ _ b7.out]; rfl
      have d0 : w7.cell? ⟨w.heap.size, 0, none⟩ = some (.string ⟨#[]⟩) := by rw [cell_of_row _ _ _ _ _ _ q7.out]; rfl
      have d1 : w7.cell? ⟨w.heap.size, 1, none⟩ = some (.int .i64 0) := by rw [cell_of_row _ _ _ _ _ _ q7.out]; rfl
      have d2 : w7.cell? ⟨w.heap.size, 2, none⟩ = some (.int .i64 0) := by rw [cell_of_row _ _ _ _ _ _ q7.out]; rfl
      have d3 : w7.cell? ⟨w.heap.size, 3, none⟩ = some (.string ⟨#[]⟩) := by rw [cell_of_row _ _ _ _ _ _ q7.out]; rfl
      have d4 : w7.cell? ⟨w.heap.size, 4, none⟩ = some (.slice none 0 0) := by rw [cell_of_row _ _ _ _ _ _ q7.out]; rfl
      have d5 : w7.cell? ⟨w.heap.size, 5, none⟩ = some (.slice none 0 0) := by rw [cell_of_row _ _ _ _ _ _ q7.out]; rfl
      have d6 : w7.cell? ⟨w.heap.size, 6, none⟩ = some (.slice none 0 0) := by rw [cell_of_row _ _ _ _ _ _ q7.out]; rfl
      have f0 : ∀ o, w7.frozen? ⟨w.heap.size, o, none⟩ = false := fun o => by simp [World.frozen?, q7.out]
      have f1 : ∀ o, w7.frozen? ⟨w3.heap.size, o, none⟩ = false := fun o => by simp [World.frozen?, b7.out]
      go_wp2_with fail
      clear c0 c1 c2 c3 c4 c5 c6 d0 d1 d2 d3 d4 d5 d6 f0 f1
      refine (pick_any r _ v zs 7 _ hR7 (by omega) (by omega) (by omega)).mono ?_
      rintro e w8 ⟨y, rfl, hy0, hy1, hR8, hg8⟩
      have hG8 := grown_trans2 hG7 hg8
      have q8 : Hid _ := row_grown q7.out hg8 (by omega)
      have b8 : Hid _ := row_grown b7.out hg8 (by omega)
      have h38 := en3_grown h37 hg8 (by omega)
      have hz8 := hg8.size
      have q8b : Hid _ := row_grown q8.out (cell_grown w8 ⟨w3.heap.size, 2, none⟩ (.int .i64 y)) (by show w.heap.size ≠ w3.heap.size; omega)
      have h38b : En3 (w8.setCell ⟨w3.heap.size, 2, none⟩ (.int .i64 y)) (w3.heap.size + 1) (.slice none 0 0) (.slice au L.length cu) (.slice none 0 0) ⟨s, t, y, ⟨#[]⟩, [], L, []⟩ := en3_grown h38 (cell_grown w8 ⟨w3.heap.size, 2, none⟩ (.int .i64 y)) (by show w3.heap.size < _; omega)
      have hG8b := grown_base hG8 ((Below.refl w.heap.size w8).setCell (p := ⟨w3.heap.size, 2, none⟩) (by show w.heap.size ≤ w3.heap.size; omega) (.int .i64 y))
      have c0 : w8.cell? ⟨w3.heap.size, 0, none⟩ = some (.string s) := by rw [cell_of_row _ _ _ _ _ _ b8.out]; rfl
      have c1 : w8.cell? ⟨w3.heap.size, 1, none⟩ = some (.int .i64 t) := by rw [cell_of_row _ _ _ _ _ _ b8.out]; rfl
      have c2 : w8.cell? ⟨w3.heap.size, 2, none⟩ = some (.int .i64 4) := by rw [cell_of_row _ _ _ _ _ _ b8.out]; rfl
      have c3 : w8.cell? ⟨w3.heap.size, 3, none⟩ = some (.string ⟨#[]⟩) := by rw [cell_of_row _ _ _ _ _ _ b8.out]; rfl
      have c4 : w8.cell? ⟨w3.heap.size, 4, none⟩ = some (.slice none 0 0) := by rw [cell_of_row _ _ _ _ _ _ b8.out]; rfl
      have c5 : w8.cell? ⟨w3.heap.size, 5, none⟩ = some (.slice au L.length cu) := by rw [cell_of_row _ _ _ _ _ _ b8.out]; rfl
      have c6 : w8.cell? ⟨w3.heap.size, 6, none⟩ = some (.slice none 0 0) := by rw [cell_of_row _ _ _ _ _ _ b8.out]; rfl
      have d0 : w8.cell? ⟨w.heap.size, 0, none⟩ = some (.string ⟨#[]⟩) := by rw [cell_of_row _ _ _ _ _ _ q8.out]; rfl
      have d1 : w8.cell? ⟨w.heap.size, 1, none⟩ = some (.int .i64 0) := by rw [cell_of_row _ _ _ _ _ _ q8.out]; rfl
      have d2 : w8.cell? ⟨w.heap.size, 2, none⟩ = some (.int .i64 0) := by rw [cell_of_row _ _ _ _ _ _ q8.out]; rfl
      have d3 : w8.cell? ⟨w.heap.size, 3, none⟩ = some (.string ⟨#[]⟩) := by rw [cell_of_row _ _ _ _ _ _ q8.out]; rfl
      have d4 : w8.cell? ⟨w.heap.size, 4, none⟩ = some (.slice none 0 0) := by rw [cell_of_row _ _ _ _ _ _ q8.out]; rfl
      have d5 : w8.cell? ⟨w.heap.size, 5, none⟩ = some (.slice none 0 0) := by rw [cell_of_row _ _ _ _ _ _ q8.out]; rfl
      have d6 : w8.cell? ⟨w.heap.size, 6, none⟩ = some (.slice none 0 0) := by rw [cell_of_row _ _ _ _ _ _ q8.out]; rfl
      have f0 : ∀ o, w8.frozen? ⟨w.heap.size, o, none⟩ = false := fun o => by simp [World.frozen?, q8.out]
      have f1 : ∀ o, w8.frozen? ⟨w3.heap.size, o, none⟩ = false := fun o => by simp [World.frozen?, b8.out]
      clear hR7 hG7 hg8 q7 b7 h37 hR8 hG8 h38
      have HQ : Hid _ := q8b.out
      go_wp2_with fail
      refine bodyPost_ret (results_cell_row rfl _ _ w.heap.size 27 _ (0, 0) _ rfl (box7_setc HQ.out _ _ _ _ _ _ _) Try.underlying27 rfl (by kernel_rfl)) rfl ?_
      have e3 := all7 (fun W => En3 W (w3.heap.size + 1) (.slice none 0 0) (.slice au L.length cu) (.slice none 0 0) ⟨s, t, y, ⟨#[]⟩, [], L, []⟩) w.heap.size (fun W o u h => en3_grown h (cell_grown W _ u) (by show w.heap.size < _; omega)) h38b
      have eG := all7 (fun W => w.grownBy W (some r)) w.heap.size (fun W o u h => grown_base h ((Below.refl w.heap.size W).setCell (p := ⟨w.heap.size, o, none⟩) (Nat.le_refl _) u)) hG8b
      exact ⟨⟨⟨s, t, y, ⟨#[]⟩, [], L, []⟩, _, _, _, w3.heap.size + 1, rfl, by omega, e3 _ _ _ _ _ _ _, ⟨by show s.size ≤ 1000; omega, by show 0 ≤ 1000; omega, by simp, by show L.length ≤ 1000; omega, by simp⟩⟩, eG _ _ _ _ _ _ _⟩
    · have hy' : (y == 0) = false := by simpa using hy
      clear hy
      have c0 : w7.cell? ⟨w3.heap.size, 0, none⟩ = some (.string s) := by rw [cell_of_row _ _ _ _ _ _ b7.out]; rfl
      have c1 : w7.cell? ⟨w3.heap.size, 1, none⟩ = some (.int .i64 t) := by rw [cell_of_row _ _ _ _ _ _ b7.out]; rfl
      have c2 : w7.cell? ⟨w3.heap.size, 2, none⟩ = some (.int .i64 4) := by rw [cell_of_row _ _ _ _ _ _ b7.out]; rfl
      have c3 : w7.cell? ⟨w3.heap.size, 3, none⟩ = some (.string ⟨#[]⟩) := by rw [cell_of_row _ _ _ _ _ _ b7.out]; rfl
      have c4 : w7.cell? ⟨w3.heap.size, 4, none⟩ = some (.slice none 0 0) := by rw [cell_of_row _ _ _ _ _ _ b7.out]; rfl
      have c5 : w7.cell? ⟨w3.heap.size, 5, none⟩ = some (.slice au L.length cu) := by rw [cell_of_row _ _ _ _ _ _ b7.out]; rfl
      have c6 : w7.cell? ⟨w3.heap.size, 6, none⟩ = some (.slice none 0 0) := by rw [cell_of_row _ _ _ _ _ _ b7.out]; rfl
      have d0 : w7.cell? ⟨w.heap.size, 0, none⟩ = some (.string ⟨#[]⟩) := by rw [cell_of_row _ _ _ _ _ _ q7.out]; rfl
      have d1 : w7.cell? ⟨w.heap.size, 1, none⟩ = some (.int .i64 0) := by rw [cell_of_row _ _ _ _ _ _ q7.out]; rfl
      have d2 : w7.cell? ⟨w.heap.size, 2, none⟩ = some (.int .i64 0) := by rw [cell_of_row _ _ _ _ _ _ q7.out]; rfl
      have d3 : w7.cell? ⟨w.heap.size, 3, none⟩ = some (.string ⟨#[]⟩) := by rw [cell_of_row _ _ _ _ _ _ q7.out]; rfl
      have d4 : w7.cell? ⟨w.heap.size, 4, none⟩ = some (.slice none 0 0) := by rw [cell_of_row _ _ _ _ _ _ q7.out]; rfl
      have d5 : w7.cell? ⟨w.heap.size, 5, none⟩ = some (.slice none 0 0) := by rw [cell_of_row _ _ _ _ _ _ q7.out]; rfl
      have d6 : w7.cell? ⟨w.heap.size, 6, none⟩ = some (.slice none 0 0) := by rw [cell_of_row _ _ _ _ _ _ q7.out]; rfl
      have f0 : ∀ o, w7.frozen? ⟨w.heap.size, o, none⟩ = false := fun o => by simp [World.frozen?, q7.out]
      have f1 : ∀ o, w7.frozen? ⟨w3.heap.size, o, none⟩ = false := fun o => by simp [World.frozen?, b7.out]
      have HQ : Hid _ := q7.out
      go_wp2_with fail
      refine bodyPost_ret (results_cell_row rfl _ _ w.heap.size 27 _ (0, 0) _ rfl (box7_setc HQ.out _ _ _ _ _ _ _) Try.underlying27 rfl (by kernel_rfl)) rfl ?_
      have e3 := all7 (fun W => En3 W (w3.heap.size + 1) (.slice none 0 0) (.slice au L.length cu) (.slice none 0 0) ⟨s, t, 4, ⟨#[]⟩, [], L, []⟩) w.heap.size (fun W o u h => en3_grown h (cell_grown W _ u) (by show w.heap.size < _; omega)) h37
      have eG := all7 (fun W => w.grownBy W (some r)) w.heap.size (fun W o u h => grown_base h ((Below.refl w.heap.size W).setCell (p := ⟨w.heap.size, o, none⟩) (Nat.le_refl _) u)) hG7
      exact ⟨⟨⟨s, t, 4, ⟨#[]⟩, [], L, []⟩, _, _, _, w3.heap.size + 1, rfl, by omega, e3 _ _ _ _ _ _ _, ⟨by show s.size ≤ 1000; omega, by show 0 ≤ 1000; omega, by simp, by show L.length ≤ 1000; omega, by simp⟩⟩, eG _ _ _ _ _ _ _⟩
  ·
    go_wp2_with fail
    obtain ⟨w4, hW⟩ : ∃ W, w3.alloc (.cells #[.string s, .int .i64 t, .int .i64 5, .string ⟨#[]⟩, .slice none 0 0, .slice none 0 0, .slice none 0 0] 27) = W := ⟨_, rfl⟩
    have hb4 : Below w3.heap.size w3 w4 := by rw [← hW]; exact (Below.refl _ _).alloc (Nat.le_refl _) _
    have hz4 : w4.heap.size = w3.heap.size + 1 := by rw [← hW]; simp
    have b4 : Hid (w4.heap[w3.heap.size]? = some (.cells #[.string s, .int .i64 t, .int .i64 5, .string ⟨#[]⟩, .slice none 0 0, .slice none 0 0, .slice none 0 0] 27 (0, 0))) := by show _ = _; rw [← hW]; exact heap_alloc_new _ _
    have q4 : Hid _ := row_below q3.out hb4 (by omega)
    have hR4 := rd_grown hR3 hb4
    have hG4 : w.grownBy w4 (some r) := grown_base hG3 (hb4.mono (by omega))
    rw [hW]
    clear hW hb4 hR3 hG3 q3
    refine (anyFields_draw r _ v zs _ hR4 (by omega)).mono ?_
    rintro e w5 ⟨u, L, q, rfl, ho, hL, hR5, hq, hg5⟩
    obtain ⟨au, cu, rfl⟩ := readsR_shape (ownsR_reads prC_len ho)
    have hG5 := grown_trans2 hG4 hg5
    have q5 : Hid _ := row_grown q4.out hg5 (by omega)
    have b5 : Hid _ := row_grown b4.out hg5 (by omega)
    have hz5 := hg5.size
    rw [hz4] at hz5
    clear hR4 hG4 hg5 q4 b4
    have c6 : w5.cell? ⟨w3.heap.size, 6, none⟩ = _ := cell_of_row _ _ _ _ _ _ b5.out
    have f6 : w5.frozen? ⟨w3.heap.size, 6, none⟩ = false := by simp [World.frozen?, b5.out]
    go_wp2_with fail
    clear c6 f6
    obtain ⟨w6, hW⟩ : ∃ W, w5.setCell ⟨w3.heap.size, 6, none⟩ (.slice au L.length cu) = W := ⟨_, rfl⟩
    have b6 : Hid (w6.heap[w3.heap.size]? = some (.cells #[.string s, .int .i64 t, .int .i64 5, .string ⟨#[]⟩, .slice none 0 0, .slice none 0 0, .slice au L.length cu] 27 (0, 0))) := by show _ = _; rw [← hW, heap_setCell_same _ _ 6 _ _ _ b5.out]; rfl
    have hgc : w5.grownBy w6 (some w3.heap.size) := by rw [← hW]; exact cell_grown _ _ _
    have q6 : Hid _ := row_grown q5.out hgc (by omega)
    have hG6 : w.grownBy w6 (some r) := by rw [← hW]; exact grown_base hG5 ((Below.refl w.heap.size w5).setCell (by show w.heap.size ≤ w3.heap.size; omega) _)
    have hR6 := rd_kept hR5 (show Below w3.heap.size w5 w6 by rw [← hW]; exact (Below.refl w3.heap.size w5).setCell (Nat.le_refl _) _) (by omega)
    rw [hz4] at ho
    have h36 : En3 w6 (w3.heap.size + 1) (.slice none 0 0) (.slice none 0 0) (.slice au L.length cu) ⟨s, t, 5, ⟨#[]⟩, [], [], L⟩ := ⟨World.ownsRow_nil _ _ _ _, World.ownsRow_nil _ _ _ _, World.ownsRow.kept ho hgc (ne_of_lt ho (by omega))⟩
    have hz6 : w6.heap.size = w5.heap.size := by rw [← hW]; exact setc_size _ _ _
    rw [hW]
    clear hW hgc hR5 hG5 q5 b5 ho
    refine (pick_any r _ v zs 16 _ hR6 (by omega) (by omega) (by omega)).mono ?_
    rintro e w7 ⟨y, rfl, hy0, hy1, hR7, hg7⟩
    have hG7 := grown_trans2 hG6 hg7
    have q7 : Hid _ := row_grown q6.out hg7 (by omega)
    have b7 : Hid _ := row_grown b6.out hg7 (by omega)
    have h37 := en3_grown h36 hg7 (by omega)
    have hz7 := hg7.size
    clear hR6 hG6 hg7 q6 b6 h36
    by_cases hy : y = 0
    · subst hy
      have c0 : w7.cell? ⟨w3.heap.size, 0, none⟩ = some (.string s) := by rw [cell_of_row _ _ _ _ _ _ b7.out]; rfl
      have c1 : w7.cell? ⟨w3.heap.size, 1, none⟩ = some (.int .i64 t) := by rw [cell_of_row _ _ _ _ _ _ b7.out]; rfl
      have c2 : w7.cell? ⟨w3.heap.size, 2, none⟩ = some (.int .i64 5) := by rw [cell_of_row _ _ _ _ _ _ b7.out]; rfl
      have c3 : w7.cell? ⟨w3.heap.size, 3, none⟩ = some (.string ⟨#[]⟩) := by rw [cell_of_row _ _ _ _ _ _ b7.out]; rfl
      have c4 : w7.cell? ⟨w3.heap.size, 4, none⟩ = some (.slice none 0 0) := by rw [cell_of_row _ _ _ _ _ _ b7.out]; rfl
      have c5 : w7.cell? ⟨w3.heap.size, 5, none⟩ = some (.slice none 0 0) := by rw [cell_of_row _ _ _ _ _ _ b7.out]; rfl
      have c6 : w7.cell? ⟨w3.heap.size, 6, none⟩ = some (.slice au L.length cu) := by rw [cell_of_row _ _ _ _ _ _ b7.out]; rfl
      have d0 : w7.cell? ⟨w.heap.size, 0, none⟩ = some (.string ⟨#[]⟩) := by rw [cell_of_row _ _ _ _ _ _ q7.out]; rfl
      have d1 : w7.cell? ⟨w.heap.size, 1, none⟩ = some (.int .i64 0) := by rw [cell_of_row _ _ _ _ _ _ q7.out]; rfl
      have d2 : w7.cell? ⟨w.heap.size, 2, none⟩ = some (.int .i64 0) := by rw [cell_of_row _ _ _ _ _ _ q7.out]; rfl
      have d3 : w7.cell? ⟨w.heap.size, 3, none⟩ = some (.string ⟨#[]⟩) := by rw [cell_of_row _ _ _ _ _ _ q7.out]; rfl
      have d4 : w7.cell? ⟨w.heap.size, 4, none⟩ = some (.slice none 0 0) := by rw [cell_of_row _ _ _ _ _ _ q7.out]; rfl
      have d5 : w7.cell? ⟨w.heap.size, 5, none⟩ = some (.slice none 0 0) := by rw [cell_of_row _ _ _ _ _ _ q7.out]; rfl
      have d6 : w7.cell? ⟨w.heap.size, 6, none⟩ = some (.slice none 0 0) := by rw [cell_of_row _ _ _ _ _ _ q7.out]; rfl
      have f0 : ∀ o, w7.frozen? ⟨w.heap.size, o, none⟩ = false := fun o => by simp [World.frozen?, q7.out]
      have f1 : ∀ o, w7.frozen? ⟨w3.heap.size, o, none⟩ = false := fun o => by simp [World.frozen?, b7.out]
      go_wp2_with fail
      clear c0 c1 c2 c3 c4 c5 c6 d0 d1 d2 d3 d4 d5 d6 f0 f1
      refine (pick_any r _ v zs 7 _ hR7 (by omega) (by omega) (by omega)).mono ?_
      rintro e w8 ⟨y, rfl, hy0, hy1, hR8, hg8⟩
      have hG8 := grown_trans2 hG7 hg8
      have q8 : Hid _ := row_grown q7.out hg8 (by omega)
      have b8 : Hid _ := row_grown b7.out hg8 (by omega)
      have h38 := en3_grown h37 hg8 (by omega)
      have hz8 := hg8.size
      have q8b : Hid _ := row_grown q8.out (cell_grown w8 ⟨w3.heap.size, 2, none⟩ (.int .i64 y)) (by show w.heap.size ≠ w3.heap.size; omega)
      have h38b : En3 (w8.setCell ⟨w3.heap.size, 2, none⟩ (.int .i64 y)) (w3.heap.size + 1) (.slice none 0 0) (.slice none 0 0) (.slice au L.length cu) ⟨s, t, y, ⟨#[]⟩, [], [], L⟩ := en3_grown h38 (cell_grown w8 ⟨w3.heap.size, 2, none⟩ (.int .i64 y)) (by show w3.heap.size < _; omega)
      have hG8b := grown_base hG8 ((Below.refl w.heap.size w8).setCell (p := ⟨w3.heap.size, 2, none⟩) (by show w.heap.size ≤ w3.heap.size; omega) (.int .i64 y))
      have c0 : w8.cell? ⟨w3.heap.size, 0, none⟩ = some (.string s) := by rw [cell_of_row _ _ _ _ _ _ b8.out]; rfl
      have c1 : w8.cell? ⟨w3.heap.size, 1, none⟩ = some (.int .i64 t) := by rw [cell_of_row _ _ _ _ _ _ b8.out]; rfl
      have c2 : w8.cell? ⟨w3.heap.size, 2, none⟩ = some (.int .i64 5) := by rw [cell_of_row _ _ _ _ _ _ b8.out]; rfl
      have c3 : w8.cell? ⟨w3.heap.size, 3, none⟩ = some (.string ⟨#[]⟩) := by rw [cell_of_row _ _ _ _ _ _ b8.out]; rfl
      have c4 : w8.cell? ⟨w3.heap.size, 4, none⟩ = some (.slice none 0 0) := by rw [cell_of_row _ _ _ _ _ _ b8.out]; rfl
      have c5 : w8.cell? ⟨w3.heap.size, 5, none⟩ = some (.slice none 0 0) := by rw [cell_of_row _ _ _ _ _ _ b8.out]; rfl
      have c6 : w8.cell? ⟨w3.heap.size, 6, none⟩ = some (.slice au L.length cu) := by rw [cell_of_row _ _ _ _ _ _ b8.out]; rfl
      have d0 : w8.cell? ⟨w.heap.size, 0, none⟩ = some (.string ⟨#[]⟩) := by rw [cell_of_row _ _ _ _ _ _ q8.out]; rfl
      have d1 : w8.cell? ⟨w.heap.size, 1, none⟩ = some (.int .i64 0) := by rw [cell_of_row _ _ _ _ _ _ q8.out]; rfl
      have d2 : w8.cell? ⟨w.heap.size, 2, none⟩ = some (.int .i64 0) := by rw [cell_of_row _ _ _ _ _ _ q8.out]; rfl
      have d3 : w8.cell? ⟨w.heap.size, 3, none⟩ = some (.string ⟨#[]⟩) := by rw [cell_of_row _ _ _ _ _ _ q8.out]; rfl
      have d4 : w8.cell? ⟨w.heap.size, 4, none⟩ = some (.slice none 0 0) := by rw [cell_of_row _ _ _ _ _ _ q8.out]; rfl
      have d5 : w8.cell? ⟨w.heap.size, 5, none⟩ = some (.slice none 0 0) := by rw [cell_of_row _ _ _ _ _ _ q8.out]; rfl
      have d6 : w8.cell? ⟨w.heap.size, 6, none⟩ = some (.slice none 0 0) := by rw [cell_of_row _ _ _ _ _ _ q8.out]; rfl
      have f0 : ∀ o, w8.frozen? ⟨w.heap.size, o, none⟩ = false := fun o => by simp [World.frozen?, q8.out]
      have f1 : ∀ o, w8.frozen? ⟨w3.heap.size, o, none⟩ = false := fun o => by simp [World.frozen?, b8.out]
      clear hR7 hG7 hg8 q7 b7 h37 hR8 hG8 h38
      have HQ : Hid _ := q8b.out
      go_wp2_with fail
      refine bodyPost_ret (results_cell_row rfl _ _ w.heap.size 27 _ (0, 0) _ rfl (box7_setc HQ.out _ _ _ _ _ _ _) Try.underlying27 rfl (by kernel_rfl)) rfl ?_
      have e3 := all7 (fun W => En3 W (w3.heap.size + 1) (.slice none 0 0) (.slice none 0 0) (.slice au L.length cu) ⟨s, t, y, ⟨#[]⟩, [], [], L⟩) w.heap.size (fun W o u h => en3_grown h (cell_grown W _ u) (by show w.heap.size < _; omega)) h38b
      have eG := all7 (fun W => w.grownBy W (some r)) w.heap.size (fun W o u h => grown_base h ((Below.refl w.heap.size W).setCell (p := ⟨w.heap.size, o, none⟩) (Nat.le_refl _) u)) hG8b
      exact ⟨⟨⟨s, t, y, ⟨#[]⟩, [], [], L⟩, _, _, _, w3.heap.size + 1, rfl, by omega, e3 _ _ _ _ _ _ _, ⟨by show s.size ≤ 1000; omega, by show 0 ≤ 1000; omega, by simp, by simp, by show L.length ≤ 1000; omega⟩⟩, eG _ _ _ _ _ _ _⟩
    · have hy' : (y == 0) = false := by simpa using hy
      clear hy
      have c0 : w7.cell? ⟨w3.heap.size, 0, none⟩ = some (.string s) := by rw [cell_of_row _ _ _ _ _ _ b7.out]; rfl
      have c1 : w7.cell? ⟨w3.heap.size, 1, none⟩ = some (.int .i64 t) := by rw [cell_of_row _ _ _ _ _ _ b7.out]; rfl
      have c2 : w7.cell? ⟨w3.heap.size, 2, none⟩ = some (.int .i64 5) := by rw [cell_of_row _ _ _ _ _ _ b7.out]; rfl
      have c3 : w7.cell? ⟨w3.heap.size, 3, none⟩ = some (.string ⟨#[]⟩) := by rw [cell_of_row _ _ _ _ _ _ b7.out]; rfl
      have c4 : w7.cell? ⟨w3.heap.size, 4, none⟩ = some (.slice none 0 0) := by rw [cell_of_row _ _ _ _ _ _ b7.out]; rfl
      have c5 : w7.cell? ⟨w3.heap.size, 5, none⟩ = some (.slice none 0 0) := by rw [cell_of_row _ _ _ _ _ _ b7.out]; rfl
      have c6 : w7.cell? ⟨w3.heap.size, 6, none⟩ = some (.slice au L.length cu) := by rw [cell_of_row _ _ _ _ _ _ b7.out]; rfl
      have d0 : w7.cell? ⟨w.heap.size, 0, none⟩ = some (.string ⟨#[]⟩) := by rw [cell_of_row _ _ _ _ _ _ q7.out]; rfl
      have d1 : w7.cell? ⟨w.heap.size, 1, none⟩ = some (.int .i64 0) := by rw [cell_of_row _ _ _ _ _ _ q7.out]; rfl
      have d2 : w7.cell? ⟨w.heap.size, 2, none⟩ = some (.int .i64 0) := by rw [cell_of_row _ _ _ _ _ _ q7.out]; rfl
      have d3 : w7.cell? ⟨w.heap.size, 3, none⟩ = some (.string ⟨#[]⟩) := by rw [cell_of_row _ _ _ _ _ _ q7.out]; rfl
      have d4 : w7.cell? ⟨w.heap.size, 4, none⟩ = some (.slice none 0 0) := by rw [cell_of_row _ _ _ _ _ _ q7.out]; rfl
      have d5 : w7.cell? ⟨w.heap.size, 5, none⟩ = some (.slice none 0 0) := by rw [cell_of_row _ _ _ _ _ _ q7.out]; rfl
      have d6 : w7.cell? ⟨w.heap.size, 6, none⟩ = some (.slice none 0 0) := by rw [cell_of_row _ _ _ _ _ _ q7.out]; rfl
      have f0 : ∀ o, w7.frozen? ⟨w.heap.size, o, none⟩ = false := fun o => by simp [World.frozen?, q7.out]
      have f1 : ∀ o, w7.frozen? ⟨w3.heap.size, o, none⟩ = false := fun o => by simp [World.frozen?, b7.out]
      have HQ : Hid _ := q7.out
      go_wp2_with fail
      refine bodyPost_ret (results_cell_row rfl _ _ w.heap.size 27 _ (0, 0) _ rfl (box7_setc HQ.out _ _ _ _ _ _ _) Try.underlying27 rfl (by kernel_rfl)) rfl ?_
      have e3 := all7 (fun W => En3 W (w3.heap.size + 1) (.slice none 0 0) (.slice none 0 0) (.slice au L.length cu) ⟨s, t, 5, ⟨#[]⟩, [], [], L⟩) w.heap.size (fun W o u h => en3_grown h (cell_grown W _ u) (by show w.heap.size < _; omega)) h37
      have eG := all7 (fun W => w.grownBy W (some r)) w.heap.size (fun W o u h => grown_base h ((Below.refl w.heap.size W).setCell (p := ⟨w.heap.size, o, none⟩) (Nat.le_refl _) u)) hG7
      exact ⟨⟨⟨s, t, 5, ⟨#[]⟩, [], [], L⟩, _, _, _, w3.heap.size + 1, rfl, by omega, e3 _ _ _ _ _ _ _, ⟨by show s.size ≤ 1000; omega, by show 0 ≤ 1000; omega, by simp, by simp, by show L.length ≤ 1000; omega⟩⟩, eG _ _ _ _ _ _ _⟩
end Go.Proofs.Ytdaahcenplepjaa
