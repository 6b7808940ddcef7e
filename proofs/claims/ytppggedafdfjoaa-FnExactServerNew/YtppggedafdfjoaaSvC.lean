/- A new server, the program's and the model's; servers without a base and a file alike, marked, held. -/
import Derived.Test.YtppggedafdfjoaaSvB
namespace Go.Proofs.Ytppggedafdfjoaa
open Go.RowKit

theorem news_cell (w : World) (cs : Array Value) (t : TypeId) : ∀ j u, cs.toList[j]? = some u → (w.alloc (.cells cs t)).cell? ((⟨w.heap.size, 0, none⟩ : Addr).add j) = some u := by
  intro j u hu
  rw [Addr.add_mid, Nat.zero_add, cell_of_row _ _ _ _ _ _ (heap_alloc_new w _)]
  simpa using hu
theorem l1In_nine (a : Int) (w : World) : Calls Try.prog 9 #[.int .i64 a, .int .i64 1, .int .i64 3] w fun e w' => e = .returned (.bool (decide (1 ≤ a) && decide (a ≤ 3))) ∧ w = w' := by
  rcases Int.lt_or_le a 1 with h | h
  · have h1 : decide ((1 : Int) ≤ a) = false := by simp; omega
    go_enter Try.func9, Try.ntmps9
    go_wp2_with fail
    go_ret
    exact ⟨ret_bool (by rw [h1]; rfl), rfl⟩
  · have h1 : decide ((1 : Int) ≤ a) = true := by simp; omega
    go_enter Try.func9, Try.ntmps9
    go_wp2_with fail
    go_ret
    exact ⟨ret_bool (by rw [h1, Bool.true_and]), rfl⟩
/-- how many clients there are -/
def clN (a : Int) : Nat := if 1 ≤ a ∧ a ≤ 3 then a.toNat else 0

theorem heap_first (w : World) (A B : Obj) : ((w.alloc A).alloc B).heap[w.heap.size]? = some A := by
  rw [Below.heap_alloc _ _ _ (by simp), heap_alloc_new]
set_option maxHeartbeats 2000000 in
theorem specNew_no (a : Int) (w : World) (h : a < 1 ∨ 3 < a) :
    Calls Try.prog 4 #[.int .i64 a] w fun e w' => e = .returned (.agg #[.int .i64 0, .slice none 0 0, .string ByteArray.empty, .slice none 0 0]) ∧ Below w.heap.size w w' := by
  go_enter Try.func4, Try.ntmps4
  have hB : ∀ A B, Below w.heap.size w ((w.alloc A).alloc B) := fun A B => ((Below.refl _ w).alloc (Nat.le_refl _) A).alloc (by simp) B
  rcases h with h | h
  · go_wp2_with fail
    refine wp_loop_rounds 1 ?_
    rw [rounds_succ]
    have h0 : a ≤ 0 := by omega
    go_wp2_with fail
    refine bodyPost_ret (results_cell_row rfl _ _ w.heap.size 27 _ (0, 0) _ rfl (heap_first _ _ _) Try.underlying27 rfl (by kernel_rfl)) rfl ?_
    exact ⟨rfl, hB _ _⟩
  · have h1 : (decide ((1 : Int) ≤ a) && decide (a ≤ 3)) = false := by simp; omega
    have h2 : 0 < a := by omega
    go_wp2_with fail
    refine wp_loop_rounds 1 ?_
    rw [rounds_succ]
    go_wp2_with (go_at_call 9; refine (l1In_nine a _).mono ?_; rw [h1]; rintro e w' ⟨rfl, rfl⟩)
    refine bodyPost_ret (results_cell_row rfl _ _ w.heap.size 27 _ (0, 0) _ rfl (heap_first _ _ _) Try.underlying27 rfl (by kernel_rfl)) rfl ?_
    exact ⟨rfl, hB _ _⟩
theorem own_setCell1 {w : World} {base : Nat} {v : Value} {l : List (Bool × Bool × Bool)} (h : ClOwns w base v l) (a : Addr) (u : Value) (ha : a.block < base) : ClOwns (w.setCell a u) base v l := by
  have hg : w.grownBy (w.setCell a u) (some a.block) := ⟨rfl, rfl, rfl, ((Below.refl 0 w).setCell (p := a) (Nat.zero_le _) u).size, fun k hk hne => Below.heap_setCell w a u k (fun e => hne (by rw [e]))⟩
  refine World.ownsRow.kept h hg ?_
  cases hv : v.ownBlock with
  | none => exact .inl rfl
  | some k =>
    right
    intro e
    have := (World.ownsRow.lt h k hv).1
    have : k = a.block := by simpa using e
    omega
theorem box4_set {w : World} {B : Nat} {x0 x1 x2 x3 : Value} {t : TypeId} (h : w.heap[B]? = some (.cells #[x0, x1, x2, x3] t (0, 0))) (u0 u1 u2 u3 : Value) :
    ((((w.setCell ⟨B, 0, none⟩ u0).setCell ⟨B, 1, none⟩ u1).setCell ⟨B, 2, none⟩ u2).setCell ⟨B, 3, none⟩ u3).heap[B]? = some (.cells #[u0, u1, u2, u3] t (0, 0)) := by
  rw [heap_setCell_same _ B 3 _ _ _ (heap_setCell_same _ B 2 _ _ _ (heap_setCell_same _ B 1 _ _ _ (heap_setCell_same _ B 0 _ _ _ h)))]; rfl
theorem box_grown {w w' : World} {B : Nat} {cs : Array Value} {t : TypeId} {r : Option Nat} (h : w.heap[B]? = some (.cells cs t (0, 0))) (hg : w.grownBy w' r) (hne : some B ≠ r) : w'.heap[B]? = some (.cells cs t (0, 0)) := by
  have hlt := (Array.getElem?_eq_some_iff.1 h).1
  rw [hg.block B hlt hne]; exact h

set_option maxHeartbeats 4000000 in
theorem specNew_yes (a : Int) (n : Nat) (w : World) (h0 : 0 < n) (hn : n ≤ 3) (ha : a = (n : Int)) :
    Calls Try.prog 4 #[.int .i64 a] w fun e w' => ∃ v, e = .returned (.agg #[.int .i64 0, .slice none 0 0, .string ByteArray.empty, v]) ∧ ClOwns w' w.heap.size v (List.replicate n clZ) ∧ Below w.heap.size w w' := by
  subst ha
  obtain ⟨i0, hi0, hz0, hz1, hz2⟩ := info_parts clInfo
  have h1 : (decide ((1 : Int) ≤ (n : Int)) && decide ((n : Int) ≤ 3)) = true := by simp; omega
  go_enter Try.func4, Try.ntmps4
  go_wp2_with fail
  go_loopw [4] (fun i wr => ∃ (k : Nat) (v : Value), k ≤ n ∧ i = .int .i64 k ∧ wr.heap[w.heap.size]? = some (.cells #[.int .i64 0, .slice none 0 0, .string ⟨#[]⟩, .slice none 0 0] 27 (0, 0)) ∧ wr.heap[w.heap.size + 1]? = some (.cells #[.int .i64 0, .slice none 0 0, .string ⟨#[]⟩, v] 27 (0, 0)) ∧ ClOwns wr (w.heap.size + 2) v (List.replicate k clZ) ∧ Below w.heap.size w wr) (fun i _ => n - (intOf i).toNat)
  case atStart =>
    exact ⟨0, _, Nat.zero_le _, rfl, heap_first _ _ _, heap_alloc2_new _ _ _, World.ownsRow_nil _ _ _ _, ((Below.refl _ w).alloc (Nat.le_refl _) _).alloc (by simp) _⟩
  case round =>
    obtain ⟨k, v, hk, rfl, hb0, hb1, ho, hB⟩ := hrel
    have hz := hB.size
    have hlt2 : w.heap.size + 2 ≤ wr.heap.size := (Array.getElem?_eq_some_iff.1 hb1).1
    by_cases hlt : k < n
    · have hk1 : (k : Int) < (n : Int) := by omega
      have c3 : wr.cell? ⟨w.heap.size + 1, 3, none⟩ = some v := by rw [cell_of_row _ _ _ _ _ _ hb1]; rfl
      have HB0 : Hid _ := hb0
      have HB1 : Hid _ := hb1
      clear hb0 hb1
      go_wp2_with (first | (go_at_call 9; refine (l1In_nine _ _).mono ?_; rw [h1]; rintro e w' ⟨rfl, rfl⟩) | (at_builtin; refine wpList_append_own _ rfl (.tmp 16) (.tmp 18) 25 rfl (w.heap.size + 2) 36 i0 _ 6 88 Try.underlying25 hi0 hz0 hz1 hz2 rfl (by decide) _ _ _ rfl (World.ownsRow.alloc ho _) ⟨wr.heap.size, 0, none⟩ 1 1 (clC clZ) rfl rfl (news_cell _ _ _) (clC_one _) (by unfold maxLen; simp; omega) (by simp; omega) (by simp; omega) ?_))
      intro v2 w2 hown2 hg2 _
      have hB2 : Below (w.heap.size + 2) wr w2 := ((Below.refl _ wr).alloc hlt2 _).grown hg2 (by simp; omega) (fun k hk => (World.ownsRow.lt ho k hk).1)
      have hb0 := (hB2.block w.heap.size (by omega)).trans HB0.out
      have hb1 := (hB2.block (w.heap.size + 1) (by omega)).trans HB1.out
      have c3b : w2.cell? ⟨w.heap.size + 1, 3, none⟩ = some v := by rw [cell_of_row _ _ _ _ _ _ hb1]; rfl
      have f3b : w2.frozen? ⟨w.heap.size + 1, 3, none⟩ = false := by simp [World.frozen?, hb1]
      have ho2 : ClOwns w2 (w.heap.size + 2) v2 (List.replicate (k + 1) clZ) := by
        unfold ClOwns OwnsR; rw [List.length_replicate, List.replicate_succ', List.flatMap_append]; simpa using hown2
      have hBw : Below w.heap.size w w2 := hB.trans (hB2.mono (by omega))
      obtain ⟨ao2, cap2, rfl⟩ := cl_shape (ownsR_reads clC_len ho2)
      have HC0 : Hid _ := hb0
      have HC1 : Hid _ := hb1
      clear hb0 hb1 hown2 hg2 ho hB2 hB c3
      go_wp2_with fail
      go_roundw
      case rel =>
        refine ⟨k + 1, _, hlt, by go_num, ?_, ?_, own_setCell1 ho2 _ _ (by simp), hBw.setCell (by simp) _⟩
        · rw [Below.heap_setCell _ _ _ _ (by simp)]; exact HC0.out
        · rw [heap_setCell_same _ _ _ _ _ _ HC1.out]; rfl
      case measure => simp [intOf]; omega
    · obtain rfl : k = n := by omega
      obtain ⟨ao2, cap2, rfl⟩ := cl_shape (ownsR_reads clC_len ho)
      have c0 : wr.cell? ⟨w.heap.size + 1, 0, none⟩ = some (.int .i64 0) := by rw [cell_of_row _ _ _ _ _ _ hb1]; rfl
      have c1 : wr.cell? ⟨w.heap.size + 1, 1, none⟩ = some (.slice none 0 0) := by rw [cell_of_row _ _ _ _ _ _ hb1]; rfl
      have c2 : wr.cell? ⟨w.heap.size + 1, 2, none⟩ = some (.string ⟨#[]⟩) := by rw [cell_of_row _ _ _ _ _ _ hb1]; rfl
      have c3 : wr.cell? ⟨w.heap.size + 1, 3, none⟩ = some (.slice ao2 k cap2) := by rw [cell_of_row _ _ _ _ _ _ hb1]; rfl
      have d0 : wr.cell? ⟨w.heap.size, 0, none⟩ = some (.int .i64 0) := by rw [cell_of_row _ _ _ _ _ _ hb0]; rfl
      have d1 : wr.cell? ⟨w.heap.size, 1, none⟩ = some (.slice none 0 0) := by rw [cell_of_row _ _ _ _ _ _ hb0]; rfl
      have d2 : wr.cell? ⟨w.heap.size, 2, none⟩ = some (.string ⟨#[]⟩) := by rw [cell_of_row _ _ _ _ _ _ hb0]; rfl
      have d3 : wr.cell? ⟨w.heap.size, 3, none⟩ = some (.slice none 0 0) := by rw [cell_of_row _ _ _ _ _ _ hb0]; rfl
      have e0 : ∀ o, wr.frozen? ⟨w.heap.size, o, none⟩ = false := fun o => by simp [World.frozen?, hb0]
      have HC0 : Hid _ := hb0
      clear hb0 hb1
      go_wp2_with fail
      refine bodyPost_ret (results_cell_row rfl _ _ w.heap.size 27 _ (0, 0) _ rfl (box4_set HC0.out _ _ _ _) Try.underlying27 rfl (by kernel_rfl)) rfl ?_
      exact ⟨_, rfl, ownsR_base (own_setCell1 (own_setCell1 (own_setCell1 (own_setCell1 ho _ _ (by simp)) _ _ (by simp)) _ _ (by simp)) _ _ (by simp)) (by omega), (((hB.setCell (Nat.le_refl _) _).setCell (Nat.le_refl _) _).setCell (Nat.le_refl _) _).setCell (Nat.le_refl _) _⟩
set_option maxHeartbeats 2000000 in
theorem implNew_no (a : Int) (w : World) (h : a < 1 ∨ 3 < a) :
    Calls Try.prog 5 #[.int .i64 a] w fun e w' => e = .returned (.agg #[.int .i64 0, .slice none 0 0, .string ByteArray.empty, .slice none 0 0]) ∧ Below w.heap.size w w' := by
  go_enter Try.func5, Try.ntmps5
  rcases h with h | h
  · go_wp2_with fail
    refine bodyPost_ret (results_cell_row rfl _ _ w.heap.size 27 _ (0, 0) _ rfl (heap_alloc_new _ _) Try.underlying27 rfl (by kernel_rfl)) rfl ?_
    exact ⟨rfl, (Below.refl _ w).alloc (Nat.le_refl _) _⟩
  · have h2 : 1 ≤ a := by omega
    go_wp2_with fail
    refine bodyPost_ret (results_cell_row rfl _ _ w.heap.size 27 _ (0, 0) _ rfl (heap_alloc_new _ _) Try.underlying27 rfl (by kernel_rfl)) rfl ?_
    exact ⟨rfl, (Below.refl _ w).alloc (Nat.le_refl _) _⟩
set_option maxHeartbeats 2000000 in
theorem implNew_yes (a : Int) (n : Nat) (w : World) (h0 : 0 < n) (hn : n ≤ 3) (ha : a = (n : Int)) :
    Calls Try.prog 5 #[.int .i64 a] w fun e w' => ∃ v, e = .returned (.agg #[.int .i64 0, .slice none 0 0, .string ByteArray.empty, v]) ∧ ClOwns w' w.heap.size v (List.replicate n clZ) ∧ Below w.heap.size w w' := by
  subst ha
  obtain ⟨i0, hi, hz0, hz1, hz2⟩ := info_parts clInfo
  have hbt : i0.bytes * n ≤ 281474976710656 := by rw [hz2]; omega
  have hml : n ≤ maxLen := by unfold maxLen; omega
  have h1 : (1 : Int) ≤ (n : Int) := by omega
  go_enter Try.func5, Try.ntmps5
  go_wp2_with (at_make; refine wpList_make_full _ rfl _ _ 25 rfl (w.heap.size + 1) 36 i0 _ 6 Try.underlying25 hi hz0 hz1 _ _ _ _ n rfl rfl rfl rfl hbt hml (by simp) ?_)
  intro w1 hown hgrow
  have hA : Below w.heap.size w (w.alloc (.cells #[.int .i64 0, .slice none 0 0, .string ⟨#[]⟩, .slice none 0 0] 27)) := (Below.refl _ w).alloc (Nat.le_refl _) _
  have hb0 : w1.heap[w.heap.size]? = some (.cells #[.int .i64 0, .slice none 0 0, .string ⟨#[]⟩, .slice none 0 0] 27 (0, 0)) :=
    (hgrow.block _ (by simp) (by simp)).trans (heap_alloc_new w _)
  have hB1 : Below w.heap.size w w1 := hA.grown hgrow hA.size (fun k hk => by cases hk)
  have ho : ClOwns w1 (w.heap.size + 1) (.slice (some ⟨w.heap.size + 1, 0, none⟩) n n) (List.replicate n clZ) := by
    unfold ClOwns OwnsR; rw [List.length_replicate, ← made_rows clC_len clZ n]; exact hown
  have d0 : w1.cell? ⟨w.heap.size, 0, none⟩ = some (.int .i64 0) := by rw [cell_of_row _ _ _ _ _ _ hb0]; rfl
  have d1 : w1.cell? ⟨w.heap.size, 1, none⟩ = some (.slice none 0 0) := by rw [cell_of_row _ _ _ _ _ _ hb0]; rfl
  have d2 : w1.cell? ⟨w.heap.size, 2, none⟩ = some (.string ⟨#[]⟩) := by rw [cell_of_row _ _ _ _ _ _ hb0]; rfl
  have d3 : w1.cell? ⟨w.heap.size, 3, none⟩ = some (.slice none 0 0) := by rw [cell_of_row _ _ _ _ _ _ hb0]; rfl
  have e0 : ∀ o, w1.frozen? ⟨w.heap.size, o, none⟩ = false := fun o => by simp [World.frozen?, hb0]
  have HC0 : Hid _ := hb0
  clear hb0 hown hgrow hbt hml hi hz0 hz1 hz2
  go_wp2_with fail
  refine bodyPost_ret (results_cell_row rfl _ _ w.heap.size 27 _ (0, 0) _ rfl (box4_set HC0.out _ _ _ _) Try.underlying27 rfl (by kernel_rfl)) rfl ?_
  exact ⟨_, rfl, ownsR_base (own_setCell1 (own_setCell1 (own_setCell1 (own_setCell1 ho _ _ (by show w.heap.size < _; omega)) _ _ (by show w.heap.size < _; omega)) _ _ (by show w.heap.size < _; omega)) _ _ (by show w.heap.size < _; omega)) (by omega), (((hB1.setCell (Nat.le_refl _) _).setCell (Nat.le_refl _) _).setCell (Nat.le_refl _) _).setCell (Nat.le_refl _) _⟩

set_option maxHeartbeats 2000000 in
theorem eqServer_any (v u : Value) (n : Nat) (w : World) (hr : ClReads w v (List.replicate n clZ)) (hq : ClReads w u (List.replicate n clZ)) (hn : n ≤ 3) :
    Calls Try.prog 6 #[.agg #[.int .i64 0, .slice none 0 0, .string ByteArray.empty, v], .agg #[.int .i64 0, .slice none 0 0, .string ByteArray.empty, u]] w fun e w' => e = .returned (.bool true) ∧ Below w.heap.size w w' := by
  obtain ⟨ao, cap, rfl⟩ := cl_shape hr
  obtain ⟨ao2, cap2, rfl⟩ := cl_shape hq
  go_enter Try.func6, Try.ntmps6
  go_wp2_with fail
  have hA : ∀ A B, Below w.heap.size w ((w.alloc A).alloc B) := fun A B => ((Below.refl _ w).alloc (Nat.le_refl _) A).alloc (by simp) B
  refine (eqBase_nil _).mono ?_
  rintro e w1 ⟨rfl, hb1⟩
  have q0 := (hb1.block w.heap.size (by simp; omega)).trans (heap_first _ _ _)
  have q1 := (hb1.block (w.heap.size + 1) (by simp)).trans (heap_alloc2_new _ _ _)
  have x2 : w1.cell? ⟨w.heap.size, 2, none⟩ = some (.string ByteArray.empty) := by rw [cell_of_row _ _ _ _ _ _ q0]; rfl
  have x3 : w1.cell? ⟨w.heap.size, 3, none⟩ = some (.slice ao n cap) := by rw [cell_of_row _ _ _ _ _ _ q0]; rfl
  have y2 : w1.cell? ⟨w.heap.size + 1, 2, none⟩ = some (.string ByteArray.empty) := by rw [cell_of_row _ _ _ _ _ _ q1]; rfl
  have y3 : w1.cell? ⟨w.heap.size + 1, 3, none⟩ = some (.slice ao2 n cap2) := by rw [cell_of_row _ _ _ _ _ _ q1]; rfl
  have hB1 := (hA _ _).trans (hb1.mono (by simp; omega))
  have hr1 := readsR_kept hr hB1
  have hq1 := readsR_kept hq hB1
  have hz := hB1.size
  have hne : (!ByteArray.empty.toList == ByteArray.empty.toList) = false := by simp
  clear hb1 q0 q1 hr hq
  go_wp2_with fail
  refine (eqClientS_any _ _ n _ hr1 hq1 hn).mono ?_
  rintro e w2 ⟨rfl, hb2⟩
  have hB2 := hB1.trans (hb2.mono hz)
  clear hb2 hB1 x2 x3 y2 y3
  go_wp2_with fail
  go_ret
  exact ⟨rfl, hB2⟩
set_option maxHeartbeats 2000000 in
theorem markServer_any (v : Value) (n base : Nat) (w : World) (ho : ClOwns w base v (List.replicate n clZ)) (h0 : 0 < n) (hn : n ≤ 3) :
    Calls Try.prog 7 #[.agg #[.int .i64 0, .slice none 0 0, .string ByteArray.empty, v], .int .i64 1] w fun e w' => e = .returned (.int .i64 (1 + 3 * (n : Int))) ∧ ClOwns w' base v (List.replicate n clM) ∧ w.grownBy w' v.ownBlock := by
  obtain ⟨ao, cap, rfl⟩ := cl_shape (ownsR_reads clC_len ho)
  have hA : ∀ A, Below w.heap.size w (w.alloc A) := fun A => (Below.refl _ w).alloc (Nat.le_refl _) A
  go_enter Try.func7, Try.ntmps7
  go_wp2_with fail
  refine (markBase_nil _ _).mono ?_
  rintro e w1 ⟨rfl, hb1⟩
  have q0 := (hb1.block w.heap.size (by simp)).trans (heap_alloc_new _ _)
  have x3 : w1.cell? ⟨w.heap.size, 3, none⟩ = some (.slice ao n cap) := by rw [cell_of_row _ _ _ _ _ _ q0]; rfl
  have hB1 := (hA _).trans (hb1.mono (by simp))
  have ho1 := ownsR_kept ho hB1
  have hg1 : w.grownBy w1 (Value.slice ao n cap).ownBlock := grown_of_below hB1
  clear hb1 q0 ho hB1
  go_wp2_with fail
  refine (markClientS_any _ n base _ ho1 h0 hn).mono ?_
  rintro e w2 ⟨rfl, ho2, hg2⟩
  have hg := grown_two hg1 hg2
  clear hg1 hg2 x3 ho1
  go_wp2_with fail
  go_ret
  exact ⟨rfl, ho2, hg⟩
set_option maxHeartbeats 2000000 in
theorem heldServer_any (v : Value) (n : Nat) (w : World) (hr : ClReads w v (List.replicate n clM)) (hn : n ≤ 3) :
    Calls Try.prog 8 #[.agg #[.int .i64 0, .slice none 0 0, .string ByteArray.empty, v], .int .i64 1] w fun e w' => e = .returned (.int .i64 (1 + 3 * (n : Int))) ∧ Below w.heap.size w w' := by
  obtain ⟨ao, cap, rfl⟩ := cl_shape hr
  have hA : ∀ A, Below w.heap.size w (w.alloc A) := fun A => (Below.refl _ w).alloc (Nat.le_refl _) A
  go_enter Try.func8, Try.ntmps8
  go_wp2_with fail
  refine (heldBase_nil _ _ (by omega)).mono ?_
  rintro e w1 ⟨rfl, hb1⟩
  have q0 := (hb1.block w.heap.size (by simp)).trans (heap_alloc_new _ _)
  have x3 : w1.cell? ⟨w.heap.size, 3, none⟩ = some (.slice ao n cap) := by rw [cell_of_row _ _ _ _ _ _ q0]; rfl
  have hB1 := (hA _).trans (hb1.mono (by simp))
  have hr1 := readsR_kept hr hB1
  clear hb1 q0 hr
  go_wp2_with fail
  refine (heldClientS_any _ n _ hr1 hn).mono ?_
  rintro e w2 ⟨rfl, rfl⟩
  have h3 : ¬ (1 + 3 * (n : Int) < 0) := by omega
  clear x3 hr1
  go_wp2_with fail
  go_ret
  exact ⟨rfl, hB1⟩
set_option maxHeartbeats 400000 in
theorem markClientS_nil (w : World) : Calls Try.prog 13 #[.slice none 0 0, .int .i64 1] w fun e w' => e = .returned (.int .i64 1) ∧ w = w' := by
  go_enter Try.func13, Try.ntmps13
  go_wp2_with fail
  refine wp_loop_rounds 1 ?_
  rw [rounds_succ]
  go_wp2_with fail
  go_ret
  exact ⟨rfl, rfl⟩
set_option maxHeartbeats 2000000 in
theorem markServer_nil (w : World) :
    Calls Try.prog 7 #[.agg #[.int .i64 0, .slice none 0 0, .string ByteArray.empty, .slice none 0 0], .int .i64 1] w fun e w' => e = .returned (.int .i64 1) ∧ Below w.heap.size w w' := by
  have hA : ∀ A, Below w.heap.size w (w.alloc A) := fun A => (Below.refl _ w).alloc (Nat.le_refl _) A
  go_enter Try.func7, Try.ntmps7
  go_wp2_with fail
  refine (markBase_nil _ _).mono ?_
  rintro e w1 ⟨rfl, hb1⟩
  have q0 := (hb1.block w.heap.size (by simp)).trans (heap_alloc_new _ _)
  have x3 : w1.cell? ⟨w.heap.size, 3, none⟩ = some (.slice none 0 0) := by rw [cell_of_row _ _ _ _ _ _ q0]; rfl
  have hB1 := (hA _).trans (hb1.mono (by simp))
  clear hb1 q0
  go_wp2_with fail
  refine (markClientS_nil _).mono ?_
  rintro e w2 ⟨rfl, rfl⟩
  clear x3
  go_wp2_with fail
  go_ret
  exact ⟨rfl, hB1⟩
theorem cl_nil (w : World) (x : Bool × Bool × Bool) : ClReads w (.slice none 0 0) (List.replicate 0 x) := .inl ⟨rfl, none, 0, rfl, fun _ => rfl⟩
end Go.Proofs.Ytppggedafdfjoaa
