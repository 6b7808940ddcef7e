/- Drawn ids, and drawn texts of ids. -/
import Derived.Test.YtkpfoocfjhilmaaDoorDrX
import Derived.Test.YtkpfoocfjhilmaaDoorIdH
namespace Go.Proofs.YtkpfoocfjhilmaaDoor
open Go.RowKit

theorem ints_own (w : World) (L : List Int) (n : Nat) (hn : L.length = n) (hm : n ≤ 1000) : (w.alloc (.cells (L.map (Value.int .i64)).toArray 3)).ownsRow w.heap.size 3 1 (.slice (some ⟨w.heap.size, 0, none⟩) L.length n) L.length (L.map (Value.int .i64)) := by
  have := World.ownsRow_lit w (base := w.heap.size) (e := 3) (size := 1) (L.map (Value.int .i64)).toArray n (Nat.le_refl _) (by unfold maxLen; omega) (by simp [hn])
  rw [hn]; simpa using this
/-- one of some numbers that are laid out on the spot -/
theorem one_spot (r p : Nat) (v : Value) (zs : List Int) (L : List Int) (n : Nat) (w : World) (h : RdAt w r v zs p) (hp : p ≤ 90000) (hl : L.length = n) (h0 : 0 < n) (hn : n ≤ 1000) :
    Calls Tryd.prog 25 #[.pointer (some ⟨r, 0, none⟩), .slice (some ⟨w.heap.size, 0, none⟩) n n] (w.alloc (.cells (L.map (Value.int .i64)).toArray 3)) fun e w' => ∃ s : Int, e = .returned (.int .i64 s) ∧ s ∈ L ∧ RdAt w' r v zs (p + 1) ∧ w.grownBy w' (some r) := by
  have hB := (Below.refl w.heap.size w).alloc (Nat.le_refl _) (.cells (L.map (Value.int .i64)).toArray 3)
  have ho := ints_own w L n hl hn
  have := one_any r p v zs L w.heap.size n w.heap.size _ (rd_grown h hB) (by omega) ho (rd_lt h) (by omega) (by omega)
  rw [hl] at this
  refine this.mono ?_
  rintro e w2 ⟨s, rfl, hmem, hR2, hg2⟩
  exact ⟨s, rfl, hmem, hR2, grown_trans2 (World.grownBy_alloc w _ (some r)) hg2⟩

theorem bytes_kept {w w' : World} {v : Value} {zs : List Int} (h : IsBytes w v zs) (hb : Below w.heap.size w w') : IsBytes w' v zs := by
  obtain ⟨ao, cap, rfl, h1, h2, h3, h4⟩ := h
  refine ⟨ao, cap, rfl, h1, h2, h3, fun h0 => ?_⟩
  obtain ⟨b, off, rfl, hlt, hc⟩ := h4 h0
  exact ⟨b, off, rfl, Nat.lt_of_lt_of_le hlt hb.size, fun k hk => (hb.cell (p := ⟨b, off + k, none⟩) hlt).trans (hc k hk)⟩
theorem below_grow1 {w a b : World} {R : Nat} (h : Below w.heap.size w a) (hg : a.grownBy b (some R)) (hR : w.heap.size ≤ R) : Below w.heap.size w b :=
  h.grown hg h.size (fun k hk => by simp at hk; omega)
def timesL : List Int := [0, 1, 3, 5, 9, 1000000]
def numsL : List Int := [0, 0, 1, 2, 1000000000]
theorem box_kept {w w' : World} {B r : Nat} {cs : Array Value} {t : TypeId} (h : w.heap[B]? = some (.cells cs t (0, 0))) (hg : w.grownBy w' (some r)) (hne : B ≠ r) : w'.heap[B]? = some (.cells cs t (0, 0)) :=
  (hg.block B (Array.getElem?_eq_some_iff.1 h).1 (fun e => hne (Option.some.inj e))).trans h
theorem box_set0 {w : World} {B : Nat} {x0 x1 : Value} {t : TypeId} (h : w.heap[B]? = some (.cells #[x0, x1] t (0, 0))) (u : Value) : (w.setCell ⟨B, 0, none⟩ u).heap[B]? = some (.cells #[u, x1] t (0, 0)) := by
  rw [heap_setCell_same _ B 0 _ _ _ h]; rfl
theorem box_set1 {w : World} {B : Nat} {x0 x1 : Value} {t : TypeId} (h : w.heap[B]? = some (.cells #[x0, x1] t (0, 0))) (u : Value) : (w.setCell ⟨B, 1, none⟩ u).heap[B]? = some (.cells #[x0, u] t (0, 0)) := by
  rw [heap_setCell_same _ B 1 _ _ _ h]; rfl
theorem grown_tr (a : World) {b c : World} {r : Option Nat} (h : a.grownBy b r) (k : b.grownBy c r) : a.grownBy c r :=
  grown_trans2 h k
theorem grown_below {a b : World} {r : Option Nat} (h : Below a.heap.size a b) : a.grownBy b r := grown_of_below2 h
theorem grown_set2 {a b : World} {r : Option Nat} (h : a.grownBy b r) {B : Nat} (hB : a.heap.size ≤ B) (o : Nat) (u : Value) : a.grownBy (b.setCell ⟨B, o, none⟩ u) r :=
  ⟨h.os, h.tape, h.output, Nat.le_trans h.size ((Below.refl 0 b).setCell (p := ⟨B, o, none⟩) (Nat.zero_le _) u).size, fun k hk hr => (Below.heap_setCell b ⟨B, o, none⟩ u k (by show k ≠ B; omega)).trans (h.block k hk hr)⟩

set_option maxHeartbeats 2000000 in
theorem l11Id_any (r p : Nat) (v : Value) (zs : List Int) (w : World) (h : RdAt w r v zs p) (hp : p ≤ 80000) :
    Calls Tryd.prog 23 #[.pointer (some ⟨r, 0, none⟩)] w fun e w' => ∃ a b : Int, e = .returned (.agg #[.int .i64 a, .int .i64 b]) ∧ a ∈ timesL ∧ b ∈ numsL ∧ RdAt w' r v zs (p + 2) ∧ w.grownBy w' (some r) := by
  have hrl := rd_lt h
  go_enter Tryd.func23, Tryd.ntmps23
  go_wp2_with fail
  have hB1 : Below w.heap.size w (w.alloc (.cells #[.int .i64 0, .int .i64 0] 24)) := (Below.refl _ w).alloc (Nat.le_refl _) _
  have R1 : Hid ((w.alloc (.cells #[.int .i64 0, .int .i64 0] 24)).heap[w.heap.size]? = some (.cells #[.int .i64 0, .int .i64 0] 24 (0, 0))) := heap_alloc_new _ _
  obtain ⟨w1, hW⟩ : ∃ W, w.alloc (.cells #[.int .i64 0, .int .i64 0] 24) = W := ⟨_, rfl⟩
  have hz1 : w1.heap.size = w.heap.size + 1 := by rw [← hW]; simp
  rw [hW] at hB1 R1 ⊢
  clear hW
  have h1 := rd_grown h hB1
  have hcall := one_spot r p v zs timesL 6 w1 h1 (by omega) rfl (by omega) (by omega)
  simp only [timesL, List.map_cons, List.map_nil] at hcall
  rw [hz1] at hcall
  refine hcall.mono ?_
  clear hcall
  rintro e w2 ⟨a, rfl, ha, h2, hg2⟩
  have R2 : Hid _ := box_kept R1.out hg2 (by omega)
  have hG2 := grown_tr w (grown_below (r := some r) hB1) hg2
  clear R1 hB1 hg2 h1
  go_wp2_with fail
  have hcall := one_spot r (p + 1) v zs numsL 5 w2 h2 (by omega) rfl (by omega) (by omega)
  simp only [numsL, List.map_cons, List.map_nil] at hcall
  refine hcall.mono ?_
  clear hcall
  rintro e w3 ⟨b, rfl, hb, h3, hg3⟩
  have R3 : Hid _ := box_kept R2.out hg3 (by omega)
  have hG3 := grown_tr w hG2 hg3
  clear R2 hg3 hG2 h2
  have hz := res_frozen R3.out
  have hc := res_cells R3.out
  have hc0 := hc.1
  have hc1 := hc.2
  clear hc
  go_wp2_with fail
  refine bodyPost_ret (results_cell_row rfl _ _ w.heap.size 24 _ (0, 0) _ rfl (res_set R3.out _ _) Tryd.underlying24 rfl (by kernel_rfl)) rfl ?_
  refine ⟨a, b, rfl, ha, hb, ?_, grown_set2 (grown_set2 hG3 (Nat.le_refl _) _ _) (Nat.le_refl _) _ _⟩
  exact rd_kept h3 (((Below.refl w.heap.size w3).setCell (p := ⟨w.heap.size, 0, none⟩) (Nat.le_refl _) _).setCell (p := ⟨w.heap.size, 1, none⟩) (Nat.le_refl _) _) hrl
def anyTimesL : List Int := timesL ++ [-1, 1000001]
def anyNumsL : List Int := numsL ++ [-1, 1000000001]
set_option maxHeartbeats 4000000 in
theorem anyId_any (r p : Nat) (v : Value) (zs : List Int) (w : World) (h : RdAt w r v zs p) (hp : p ≤ 70000) :
    Calls Tryd.prog 13 #[.pointer (some ⟨r, 0, none⟩)] w fun e w' => ∃ (a b : Int) (q : Nat), e = .returned (.agg #[.int .i64 a, .int .i64 b]) ∧ a ∈ anyTimesL ∧ b ∈ anyNumsL ∧ RdAt w' r v zs q ∧ q ≤ p + 4 ∧ w.grownBy w' (some r) := by
  have hrl := rd_lt h
  go_enter Tryd.func13, Tryd.ntmps13
  go_wp2_with fail
  have hB1 : Below w.heap.size w (w.alloc (.cells #[.int .i64 0, .int .i64 0] 24)) := (Below.refl _ w).alloc (Nat.le_refl _) _
  have R1 : Hid ((w.alloc (.cells #[.int .i64 0, .int .i64 0] 24)).heap[w.heap.size]? = some (.cells #[.int .i64 0, .int .i64 0] 24 (0, 0))) := heap_alloc_new _ _
  have Rlt : w.heap.size < (w.alloc (.cells #[.int .i64 0, .int .i64 0] 24)).heap.size := by simp
  obtain ⟨w1, hW⟩ : ∃ W, w.alloc (.cells #[.int .i64 0, .int .i64 0] 24) = W := ⟨_, rfl⟩
  rw [hW] at hB1 R1 Rlt ⊢
  clear hW
  have h1 := rd_grown h hB1
  refine (l11Id_any r p v zs _ h1 (by omega)).mono ?_
  rintro e w2 ⟨a, b, rfl, ha, hb, h2, hg2⟩
  have R2 : Hid _ := box_kept R1.out hg2 (by omega)
  have hG2 := grown_tr w (grown_below (r := some r) hB1) hg2
  have Rlt2 := Nat.lt_of_lt_of_le Rlt hg2.size
  clear R1 hB1 hg2 h1 Rlt
  go_wp2_with fail
  have hB : Below w2.heap.size w2 (w2.alloc (.cells #[.int .i64 a, .int .i64 b] 24)) := (Below.refl _ w2).alloc (Nat.le_refl _) _
  have X3 : Hid ((w2.alloc (.cells #[.int .i64 a, .int .i64 b] 24)).heap[w2.heap.size]? = some (.cells #[.int .i64 a, .int .i64 b] 24 (0, 0))) := heap_alloc_new _ _
  have R3 : Hid ((w2.alloc (.cells #[.int .i64 a, .int .i64 b] 24)).heap[w.heap.size]? = some (.cells #[.int .i64 0, .int .i64 0] 24 (0, 0))) := (Below.heap_alloc _ _ _ Rlt2).trans R2.out
  obtain ⟨w3, hW⟩ : ∃ W, w2.alloc (.cells #[.int .i64 a, .int .i64 b] 24) = W := ⟨_, rfl⟩
  rw [hW] at hB X3 R3 ⊢
  clear hW R2
  have h3 := rd_grown h2 hB
  have hG3 := grown_tr w hG2 (grown_below hB)
  obtain ⟨B, hBB⟩ : ∃ B, B = w2.heap.size := ⟨_, rfl⟩
  rw [← hBB] at X3 ⊢
  have hwB : w.heap.size < B := by omega
  clear hB h2 hG2
  refine (pick_any r (p + 2) v zs 12 _ h3 (by omega) (by omega) (by omega)).mono ?_
  rintro e w4 ⟨x, rfl, hx0, hx1, h4, hg4⟩
  have X4 : Hid _ := box_kept X3.out hg4 (by omega)
  have R4 : Hid _ := box_kept R3.out hg4 (by omega)
  have hG4 := grown_tr w hG3 hg4
  clear X3 R3 h3 hg4 hG3 hBB Rlt2
  rcases (show x = 0 ∨ x = 1 ∨ ((x == 0) = false ∧ (x == 1) = false) by
    by_cases e0 : x = 0
    · exact .inl e0
    · by_cases e1 : x = 1
      · exact .inr (.inl e1)
      · exact .inr (.inr ⟨beq_eq_false_iff_ne.2 e0, beq_eq_false_iff_ne.2 e1⟩)) with rfl | rfl | ⟨n0, n1⟩
  · go_wp2_with fail
    refine (one_spot r (p + 2 + 1) v zs [-1, 1000001] 2 w4 h4 (by omega) rfl (by omega) (by omega)).mono ?_
    rintro e w5 ⟨a2, rfl, ha2, h5, hg5⟩
    have X5 : Hid _ := box_kept X4.out hg5 (by omega)
    have R5 : Hid _ := box_kept R4.out hg5 (by omega)
    have hG5 := grown_tr w hG4 hg5
    have R6 : Hid ((w5.setCell ⟨B, 0, none⟩ (.int .i64 a2)).heap[w.heap.size]? = some (.cells #[.int .i64 0, .int .i64 0] 24 (0, 0))) := (heap_setCell_other w5 ⟨B, 0, none⟩ w.heap.size (.int .i64 a2) (by show w.heap.size ≠ B; omega)).trans R5.out
    have hG6 := grown_set2 hG5 (Nat.le_of_lt hwB) 0 (.int .i64 a2)
    have h6 : RdAt (w5.setCell ⟨B, 0, none⟩ (.int .i64 a2)) r v zs (p + 2 + 1 + 1) := rd_kept h5 ((Below.refl w.heap.size w5).setCell (p := ⟨B, 0, none⟩) (Nat.le_of_lt hwB) _) hrl
    have hd := res_cells X5.out
    have hd0 := hd.1
    have hd1 := hd.2
    have hzb := res_frozen X5.out
    have hc := res_cells R5.out
    have hc0 := hc.1
    have hc1 := hc.2
    have hz := res_frozen R5.out
    clear hc hd X4 R4 hG4 hg5 hG5 h4
    have hne : B ≠ w.heap.size := by omega
    go_wp2_with fail
    refine bodyPost_ret (results_cell_row rfl _ _ w.heap.size 24 _ (0, 0) _ rfl (res_set R6.out _ _) Tryd.underlying24 rfl (by kernel_rfl)) rfl ?_
    exact ⟨a2, b, p + 4, rfl, List.mem_append_right _ ha2, List.mem_append_left _ hb, rd_kept h6 (((Below.refl w.heap.size _).setCell (p := ⟨w.heap.size, 0, none⟩) (Nat.le_refl _) _).setCell (p := ⟨w.heap.size, 1, none⟩) (Nat.le_refl _) _) hrl, by omega, grown_set2 (grown_set2 hG6 (Nat.le_refl _) _ _) (Nat.le_refl _) _ _⟩
  · go_wp2_with fail
    refine (one_spot r (p + 2 + 1) v zs [-1, 1000000001] 2 w4 h4 (by omega) rfl (by omega) (by omega)).mono ?_
    rintro e w5 ⟨a2, rfl, ha2, h5, hg5⟩
    have X5 : Hid _ := box_kept X4.out hg5 (by omega)
    have R5 : Hid _ := box_kept R4.out hg5 (by omega)
    have hG5 := grown_tr w hG4 hg5
    have R6 : Hid ((w5.setCell ⟨B, 1, none⟩ (.int .i64 a2)).heap[w.heap.size]? = some (.cells #[.int .i64 0, .int .i64 0] 24 (0, 0))) := (heap_setCell_other w5 ⟨B, 1, none⟩ w.heap.size (.int .i64 a2) (by show w.heap.size ≠ B; omega)).trans R5.out
    have hG6 := grown_set2 hG5 (Nat.le_of_lt hwB) 1 (.int .i64 a2)
    have h6 : RdAt (w5.setCell ⟨B, 1, none⟩ (.int .i64 a2)) r v zs (p + 2 + 1 + 1) := rd_kept h5 ((Below.refl w.heap.size w5).setCell (p := ⟨B, 1, none⟩) (Nat.le_of_lt hwB) _) hrl
    have hd := res_cells X5.out
    have hd0 := hd.1
    have hd1 := hd.2
    have hzb := res_frozen X5.out
    have hc := res_cells R5.out
    have hc0 := hc.1
    have hc1 := hc.2
    have hz := res_frozen R5.out
    clear hc hd X4 R4 hG4 hg5 hG5 h4
    have hne : B ≠ w.heap.size := by omega
    go_wp2_with fail
    refine bodyPost_ret (results_cell_row rfl _ _ w.heap.size 24 _ (0, 0) _ rfl (res_set R6.out _ _) Tryd.underlying24 rfl (by kernel_rfl)) rfl ?_
    exact ⟨a, a2, p + 4, rfl, List.mem_append_left _ ha, List.mem_append_right _ ha2, rd_kept h6 (((Below.refl w.heap.size _).setCell (p := ⟨w.heap.size, 0, none⟩) (Nat.le_refl _) _).setCell (p := ⟨w.heap.size, 1, none⟩) (Nat.le_refl _) _) hrl, by omega, grown_set2 (grown_set2 hG6 (Nat.le_refl _) _ _) (Nat.le_refl _) _ _⟩
  · have hd := res_cells X4.out
    have hd0 := hd.1
    have hd1 := hd.2
    have hc := res_cells R4.out
    have hc0 := hc.1
    have hc1 := hc.2
    have hz := res_frozen R4.out
    clear hc hd
    go_wp2_with fail
    refine bodyPost_ret (results_cell_row rfl _ _ w.heap.size 24 _ (0, 0) _ rfl (res_set R4.out _ _) Tryd.underlying24 rfl (by kernel_rfl)) rfl ?_
    exact ⟨a, b, p + 3, rfl, List.mem_append_left _ ha, List.mem_append_left _ hb, rd_kept h4 (((Below.refl w.heap.size w4).setCell (p := ⟨w.heap.size, 0, none⟩) (Nat.le_refl _) _).setCell (p := ⟨w.heap.size, 1, none⟩) (Nat.le_refl _) _) hrl, by omega, grown_set2 (grown_set2 hG4 (Nat.le_refl _) _ _) (Nat.le_refl _) _ _⟩
end Go.Proofs.YtkpfoocfjhilmaaDoor
