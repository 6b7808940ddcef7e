/- Proved: of drawn scores and a score ScoresPut answers as its model; where it may stand it has its place, the score there is it, it is new just if it was not there, and taken away again all is as without it. No condition. -/
import Derived.Test.YtfnbjjcelncliaaQxS
import Derived.Test.YtfnbjjcelncliaaScS
import Derived.Test.YtfnbjjcelncliaaDrT
import Derived.Test.YtfnbjjcelncliaaTk
import Derived.ProofKit
import Derived.OpenShut
import Derived.ShutString
import Derived.ChangeOld
import Derived.Below
import Derived.Deep.RegionWith
namespace Go.Proofs.Ytfnbjjcelncliaa.fnScoresPut
open Go.ChangeShapes Go.WideShapes Go.ChangeAt Go.RowKit
open Go.ChangeMaps (open_string shut_string)
set_option linter.unusedVariables false

theorem own : ownKnob Try.prog.godebug = none := by kernel_rfl
theorem laidOut : laidOutB Try.prog = true := by kernel_rfl
theorem isLen (w : World) (v : Value) (zs : List Int) (h : IsBytes w v zs) : ∃ ao cap, v = .slice ao zs.length cap ∧ zs.length ≤ 9223372036854775807 := by
  obtain ⟨ao, cap, h1, h2, h3, _⟩ := h
  unfold maxLen at h3; exact ⟨ao, cap, h1, by omega⟩
theorem step {B : Nat} {a w w' : World} (h : Below B a w) (hB : B ≤ a.heap.size) (hb : Below w.heap.size w w') : Below B a w' := h.trans (hb.mono (Nat.le_trans hB h.size))
theorem neB (b : Bool) : (b != b) = false := by cases b <;> rfl
theorem eqB (b : Bool) : (b == b) = true := by cases b <;> rfl
theorem ip_any (v : Value) (l : List (ByteArray × Int)) (y : ByteArray × Int) (w : World) (hr : ScReads w v l) (hlen : l.length ≤ 1048576) :
    Calls Try.prog 7 #[v, .agg #[.string y.1, .int .i64 y.2]] w fun e w' => ∃ x, e = .returned (.tuple #[x, .bool (scPutF l y), .bool (scPutB l y)]) ∧ ScOwns w' w.heap.size x (scPutR l y) ∧ Below w.heap.size w w' := by
  have := implScoresPut_any v l y w hr hlen
  rw [sc_ptF, sc_ptB, sc_ptR] at this
  exact this
theorem drop_len (l : List (ByteArray × Int)) (s : ByteArray) (h : l.length ≤ 17) : (scDropR l s).length ≤ 17 := by
  unfold scDropR; split
  · have := scWo_len l s; omega
  · simp
set_option maxHeartbeats 16000000 in
theorem walk (v0 : Value) (zs : List Int) (w : World) (h : IsBytes w v0 zs) :
    Calls Try.prog 3 #[v0] w fun e w' => e = .returned (.bool true) ∧ Below w.heap.size w w' := by
  obtain ⟨ao, cap, rfl, hlm⟩ := isLen w v0 zs h
  rcases Int.lt_or_le (1048576 : Int) (zs.length : Int) with h0 | h0
  · go_enter Try.func3, Try.ntmps3
    go_wp2_with fail
    go_ret
    exact ⟨rfl, Below.refl _ _⟩
  go_enter Try.func3, Try.ntmps3
  go_wp2_with fail
  refine (drawPut_any _ zs _ h).mono ?_
  rintro e w0 ⟨x, O, s, n, rfl, ho1, hO, hB1⟩
  have hr1 := ownsR_reads scC_len ho1
  clear h ho1
  obtain ⟨ax, cx, rfl⟩ := readsR_shape hr1
  obtain ⟨w1, hW1⟩ : ∃ w1, w0.alloc (.cells #[.string s, .int .i64 n] 25) = w1 := ⟨_, rfl⟩
  have hb1 : Below w0.heap.size w0 w1 := by rw [← hW1]; exact (Below.refl _ _).alloc (Nat.le_refl _) _
  have rO1 := readsR_kept hr1 hb1
  have HB1 := step hB1 (Nat.le_refl _) hb1
  have hlt1 : w0.heap.size < w1.heap.size := by rw [← hW1]; simp
  have k0_1 : w1.cell? ⟨w0.heap.size, 0, none⟩ = some (.string s) := by rw [← hW1, cell_of_row _ _ _ _ _ _ (heap_alloc_new w0 _)]; rfl
  have k1_1 : w1.cell? ⟨w0.heap.size, 1, none⟩ = some (.int .i64 n) := by rw [← hW1, cell_of_row _ _ _ _ _ _ (heap_alloc_new w0 _)]; rfl
  have hPl := sc_put_len (y := (s, n)) hO
  have hneF := neB (scPutF O (s, n))
  have heqF := eqB (scPutF O (s, n))
  have hneK := neB (scOkB O)
  have heqK := eqB (scOkB O)
  go_wp2_with fail
  clear hr1 hB1 hb1 hW1
  refine (ip_any _ O (s, n) _ rO1 (by omega)).mono ?_
  rintro e w2 ⟨g, rfl, og2, hb2⟩
  have HB2 := step HB1 (Nat.le_refl _) hb2
  have rO2 := readsR_kept rO1 hb2
  have rg2 := ownsR_reads scC_len og2
  have z2 := hb2.size
  have k0_2 := hb2.cell (p := ⟨w0.heap.size, 0, none⟩) (by show w0.heap.size < _; omega) |>.trans k0_1
  have k1_2 := hb2.cell (p := ⟨w0.heap.size, 1, none⟩) (by show w0.heap.size < _; omega) |>.trans k1_1
  clear hb2 HB1 rO1 og2 k0_1 k1_1
  go_wp2_with fail
  refine (specScoresPut_any _ O (s, n) _ rO2 (by omega)).mono ?_
  rintro e w3 ⟨z, rfl, oz3, hb3⟩
  have HB3 := step HB2 (Nat.le_refl _) hb3
  have rO3 := readsR_kept rO2 hb3
  have rg3 := readsR_kept rg2 hb3
  have rz3 := ownsR_reads scC_len oz3
  have z3 := hb3.size
  have k0_3 := hb3.cell (p := ⟨w0.heap.size, 0, none⟩) (by show w0.heap.size < _; omega) |>.trans k0_2
  have k1_3 := hb3.cell (p := ⟨w0.heap.size, 1, none⟩) (by show w0.heap.size < _; omega) |>.trans k1_2
  clear hb3 HB2 rO2 rg2 oz3 k0_2 k1_2
  obtain ⟨ag, cg, hgv⟩ := readsR_shape rg3
  subst hgv
  have hFa := @sc_put_facts O (s, n)
  have HFA : Hid (scPutB O (s, n) = true → _) := hFa
  clear hFa
  generalize hGR : scPutR O (s, n) = R at *
  generalize scPutF O (s, n) = F at *
  have HGR : Hid (scPutR O (s, n) = R) := hGR
  clear hGR
  cases hB : scPutB O (s, n) with
  | false =>
    clear HFA hB HGR
    go_wp2_with fail
    refine (qxS_true _ _ R _ rg3 rz3 (by omega)).mono ?_
    rintro e w4 ⟨rfl, hb4⟩
    have HB4 := step HB3 (Nat.le_refl _) hb4
    have rO4 := readsR_kept rO3 hb4
    have rg4 := readsR_kept rg3 hb4
    have rz4 := readsR_kept rz3 hb4
    have z4 := hb4.size
    have k0_4 := hb4.cell (p := ⟨w0.heap.size, 0, none⟩) (by show w0.heap.size < _; omega) |>.trans k0_3
    have k1_4 := hb4.cell (p := ⟨w0.heap.size, 1, none⟩) (by show w0.heap.size < _; omega) |>.trans k1_3
    clear hb4 HB3 rO3 rg3 rz3 k0_3 k1_3
    go_wp2_with fail
    refine (implScoresOk_any _ O _ rO4 (by omega)).mono ?_
    rintro e w5 ⟨rfl, hb5⟩
    have HB5 := step HB4 (Nat.le_refl _) hb5
    have rO5 := readsR_kept rO4 hb5
    have rg5 := readsR_kept rg4 hb5
    have rz5 := readsR_kept rz4 hb5
    have z5 := hb5.size
    have k0_5 := hb5.cell (p := ⟨w0.heap.size, 0, none⟩) (by show w0.heap.size < _; omega) |>.trans k0_4
    have k1_5 := hb5.cell (p := ⟨w0.heap.size, 1, none⟩) (by show w0.heap.size < _; omega) |>.trans k1_4
    clear hb5 HB4 rO4 rg4 rz4 k0_4 k1_4
    go_wp2_with fail
    refine (specScoresOk_any _ O _ rO5 (by omega)).mono ?_
    rintro e w6 ⟨rfl, hb6⟩
    have HB6 := step HB5 (Nat.le_refl _) hb6
    have rO6 := readsR_kept rO5 hb6
    have rg6 := readsR_kept rg5 hb6
    have rz6 := readsR_kept rz5 hb6
    have z6 := hb6.size
    have k0_6 := hb6.cell (p := ⟨w0.heap.size, 0, none⟩) (by show w0.heap.size < _; omega) |>.trans k0_5
    have k1_6 := hb6.cell (p := ⟨w0.heap.size, 1, none⟩) (by show w0.heap.size < _; omega) |>.trans k1_5
    clear hb6 HB5 rO5 rg5 rz5 k0_5 k1_5
    go_wp2_with fail
    refine (qxS_true _ _ R _ rg6 rz6 (by omega)).mono ?_
    rintro e w7 ⟨rfl, hb7⟩
    have HB7 := step HB6 (Nat.le_refl _) hb7
    have rO7 := readsR_kept rO6 hb7
    have rg7 := readsR_kept rg6 hb7
    have rz7 := readsR_kept rz6 hb7
    have z7 := hb7.size
    have k0_7 := hb7.cell (p := ⟨w0.heap.size, 0, none⟩) (by show w0.heap.size < _; omega) |>.trans k0_6
    have k1_7 := hb7.cell (p := ⟨w0.heap.size, 1, none⟩) (by show w0.heap.size < _; omega) |>.trans k1_6
    clear hb7 HB6 rO6 rg6 rz6 k0_6 k1_6
    go_wp2_with fail
    refine (implScoresOk_any _ O _ rO7 (by omega)).mono ?_
    rintro e w8 ⟨rfl, hb8⟩
    have HB8 := step HB7 (Nat.le_refl _) hb8
    have rO8 := readsR_kept rO7 hb8
    have rg8 := readsR_kept rg7 hb8
    have rz8 := readsR_kept rz7 hb8
    have z8 := hb8.size
    have k0_8 := hb8.cell (p := ⟨w0.heap.size, 0, none⟩) (by show w0.heap.size < _; omega) |>.trans k0_7
    have k1_8 := hb8.cell (p := ⟨w0.heap.size, 1, none⟩) (by show w0.heap.size < _; omega) |>.trans k1_7
    clear hb8 HB7 rO7 rg7 rz7 k0_7 k1_7
    go_wp2_with fail
    refine (specScoresOk_any _ O _ rO8 (by omega)).mono ?_
    rintro e w9 ⟨rfl, hb9⟩
    have HB9 := step HB8 (Nat.le_refl _) hb9
    have rO9 := readsR_kept rO8 hb9
    have rg9 := readsR_kept rg8 hb9
    have rz9 := readsR_kept rz8 hb9
    have z9 := hb9.size
    have k0_9 := hb9.cell (p := ⟨w0.heap.size, 0, none⟩) (by show w0.heap.size < _; omega) |>.trans k0_8
    have k1_9 := hb9.cell (p := ⟨w0.heap.size, 1, none⟩) (by show w0.heap.size < _; omega) |>.trans k1_8
    clear hb9 HB8 rO8 rg8 rz8 k0_8 k1_8
    go_wp2_with fail
    go_ret
    exact ⟨rfl, HB9⟩
  | true =>
    obtain ⟨q1, q2, ⟨k, q3, q4, q5⟩, q6, q7, q8, q9⟩ := HFA.out hB
    clear HFA hB HGR
    go_wp2_with fail
    refine (qxS_true _ _ R _ rg3 rz3 (by omega)).mono ?_
    rintro e w4 ⟨rfl, hb4⟩
    have HB4 := step HB3 (Nat.le_refl _) hb4
    have rO4 := readsR_kept rO3 hb4
    have rg4 := readsR_kept rg3 hb4
    have rz4 := readsR_kept rz3 hb4
    have z4 := hb4.size
    have k0_4 := hb4.cell (p := ⟨w0.heap.size, 0, none⟩) (by show w0.heap.size < _; omega) |>.trans k0_3
    have k1_4 := hb4.cell (p := ⟨w0.heap.size, 1, none⟩) (by show w0.heap.size < _; omega) |>.trans k1_3
    clear hb4 HB3 rO3 rg3 rz3 k0_3 k1_3
    go_wp2_with fail
    refine (implScoresOk_any _ O _ rO4 (by omega)).mono ?_
    rintro e w5 ⟨rfl, hb5⟩
    have HB5 := step HB4 (Nat.le_refl _) hb5
    have rO5 := readsR_kept rO4 hb5
    have rg5 := readsR_kept rg4 hb5
    have rz5 := readsR_kept rz4 hb5
    have z5 := hb5.size
    have k0_5 := hb5.cell (p := ⟨w0.heap.size, 0, none⟩) (by show w0.heap.size < _; omega) |>.trans k0_4
    have k1_5 := hb5.cell (p := ⟨w0.heap.size, 1, none⟩) (by show w0.heap.size < _; omega) |>.trans k1_4
    clear hb5 HB4 rO4 rg4 rz4 k0_4 k1_4
    go_wp2_with fail
    refine (specScoresOk_any _ O _ rO5 (by omega)).mono ?_
    rintro e w6 ⟨rfl, hb6⟩
    have HB6 := step HB5 (Nat.le_refl _) hb6
    have rO6 := readsR_kept rO5 hb6
    have rg6 := readsR_kept rg5 hb6
    have rz6 := readsR_kept rz5 hb6
    have z6 := hb6.size
    have k0_6 := hb6.cell (p := ⟨w0.heap.size, 0, none⟩) (by show w0.heap.size < _; omega) |>.trans k0_5
    have k1_6 := hb6.cell (p := ⟨w0.heap.size, 1, none⟩) (by show w0.heap.size < _; omega) |>.trans k1_5
    clear hb6 HB5 rO5 rg5 rz5 k0_5 k1_5
    go_wp2_with fail
    refine (implScoresRank_any _ R s _ rg6 (by omega)).mono ?_
    rintro e w7 ⟨rfl, hb7⟩
    have HB7 := step HB6 (Nat.le_refl _) hb7
    have rO7 := readsR_kept rO6 hb7
    have rg7 := readsR_kept rg6 hb7
    have rz7 := readsR_kept rz6 hb7
    have z7 := hb7.size
    have k0_7 := hb7.cell (p := ⟨w0.heap.size, 0, none⟩) (by show w0.heap.size < _; omega) |>.trans k0_6
    have k1_7 := hb7.cell (p := ⟨w0.heap.size, 1, none⟩) (by show w0.heap.size < _; omega) |>.trans k1_6
    clear hb7 HB6 rO6 rg6 rz6 k0_6 k1_6
    rw [q3]
    go_wp2_with fail
    refine (implScoresDrop_any _ R s _ rg7 (by omega)).mono ?_
    rintro e w8 ⟨d, rfl, od8, hb8⟩
    have HB8 := step HB7 (Nat.le_refl _) hb8
    have rO8 := readsR_kept rO7 hb8
    have rg8 := readsR_kept rg7 hb8
    have rz8 := readsR_kept rz7 hb8
    have rd8 := ownsR_reads scC_len od8
    have z8 := hb8.size
    have k0_8 := hb8.cell (p := ⟨w0.heap.size, 0, none⟩) (by show w0.heap.size < _; omega) |>.trans k0_7
    have k1_8 := hb8.cell (p := ⟨w0.heap.size, 1, none⟩) (by show w0.heap.size < _; omega) |>.trans k1_7
    clear hb8 HB7 rO7 rg7 rz7 od8 k0_7 k1_7
    rw [q7]
    go_wp2_with fail
    refine (implScoresDrop_any _ O s _ rO8 (by omega)).mono ?_
    rintro e w9 ⟨e2, rfl, oe9, hb9⟩
    have HB9 := step HB8 (Nat.le_refl _) hb9
    have rO9 := readsR_kept rO8 hb9
    have rg9 := readsR_kept rg8 hb9
    have rz9 := readsR_kept rz8 hb9
    have rd9 := readsR_kept rd8 hb9
    have re9 := ownsR_reads scC_len oe9
    have z9 := hb9.size
    have k0_9 := hb9.cell (p := ⟨w0.heap.size, 0, none⟩) (by show w0.heap.size < _; omega) |>.trans k0_8
    have k1_9 := hb9.cell (p := ⟨w0.heap.size, 1, none⟩) (by show w0.heap.size < _; omega) |>.trans k1_8
    clear hb9 HB8 rO8 rg8 rz8 rd8 oe9 k0_8 k1_8
    rw [q8] at rd9
    obtain ⟨b, off, hbv, hbl, _, _, hbc⟩ := sc_some rg9 (by omega)
    subst hbv
    have hcl := sc_cells hbc q4
    rw [q5] at hcl
    obtain ⟨m0, m1⟩ := hcl
    clear hbc q5
    have hkR : (k : Int) < (R.length : Int) := by omega
    have hk0 : decide ((0 : Int) ≤ (k : Int)) = true := by simp
    have hk0' : (0 : Int) ≤ (k : Int) := by omega
    have hDl := drop_len O s hO
    have heqs := fun s n w => sc_eql_self s n w
    have hgd := fun (op : BinOp) (x y : Operand) (xs ys : Array Value) (w : World) => run_eqGuard_agg (P := Try.prog) w op 25 x y xs ys scG
    subst q6
    have heqD := eqB (decide (scFindI O s < 0))
    have hwl : w0.heap.size < w9.heap.size := by omega
    have HS : Hid (∀ w', Below w9.heap.size w9 w' → (w'.cell? ⟨w0.heap.size, 0, none⟩ = some (.string s) ∧ w'.cell? ⟨w0.heap.size, 1, none⟩ = some (.int .i64 n) ∧ w'.cell? ⟨b, off + k * 2, none⟩ = some (.string s) ∧ w'.cell? ⟨b, off + k * 2 + 1, none⟩ = some (.int .i64 n)) ∧ Below w9.heap.size w9 w') := fun w' h => ⟨⟨(h.cell (p := ⟨w0.heap.size, 0, none⟩) hwl).trans k0_9, (h.cell (p := ⟨w0.heap.size, 1, none⟩) hwl).trans k1_9, (h.cell (p := ⟨b, off + k * 2, none⟩) hbl).trans m0, (h.cell (p := ⟨b, off + k * 2 + 1, none⟩) hbl).trans m1⟩, h⟩
    go_wp2_with fail
    refine wp_region_held_drew (S := (fun w' => (w'.cell? ⟨w0.heap.size, 0, none⟩ = some (.string s) ∧ w'.cell? ⟨w0.heap.size, 1, none⟩ = some (.int .i64 n) ∧ w'.cell? ⟨b, off + k * 2, none⟩ = some (.string s) ∧ w'.cell? ⟨b, off + k * 2 + 1, none⟩ = some (.int .i64 n)) ∧ Below w9.heap.size w9 w')) (by kernel_rfl) (by exact HS.out _ (Below.refl _ _).drew) (fun hHeld => ?_)
    refine takeH (i := 0) (d := (some 101)) (v := ?_) rfl rfl (by kernel_rfl) (by kernel_rfl) (by kernel_rfl) (fun _ _ _ h => h) (by kernel_rfl) ?_ (by assumption) ?_
    rotate_left
    · (intro w hSw; (try dsimp only at hSw); go_simp; try with_reducible rfl)
    try simp only [Act.put, List.setIfInBounds_toArray, List.set_cons_succ, List.set_cons_zero]
    refine wpAnyH_ready (rs := [1]) (by kernel_rfl) (by simp) ?_
    refine AllReadyH.cons rfl (fun K hK => ?_) AllReadyH.nil
    go_simp
    refine (implScoresOk_any _ R _ (readsR_kept rg9 (Below.refl w9.heap.size w9).drew) (by omega)).mono ?_; rintro e wa1 ⟨he, hba1⟩; rw [q2] at he; subst he; have hbb1 : Below w9.heap.size w9 wa1 := (Below.refl w9.heap.size w9).drew.trans hba1
    refine hK.out _ _ ?_ (fun hHeld => ?_)
    · exact HS.out _ hbb1
    clear hK K
    try simp only [Act.put, List.setIfInBounds_toArray, List.set_cons_succ, List.set_cons_zero]
    refine takeH (i := 2) (d := (some 103)) (v := ?_) rfl rfl (by kernel_rfl) (by kernel_rfl) (by kernel_rfl) (fun _ _ _ h => h) (by kernel_rfl) ?_ (by assumption) ?_
    rotate_left
    · (intro w hSw; (try dsimp only at hSw); go_simp; try with_reducible rfl)
    try simp only [Act.put, List.setIfInBounds_toArray, List.set_cons_succ, List.set_cons_zero]
    refine takeH (i := 3) (d := (some 104)) (v := ?_) rfl rfl (by kernel_rfl) (by kernel_rfl) (by kernel_rfl) (fun _ _ _ h => h) (by kernel_rfl) ?_ (by assumption) ?_
    rotate_left
    · (intro w hSw; (try dsimp only at hSw); go_simp; try with_reducible rfl)
    try simp only [Act.put, List.setIfInBounds_toArray, List.set_cons_succ, List.set_cons_zero]
    refine takeH (i := 4) (d := (some 105)) (v := ?_) rfl rfl (by kernel_rfl) (by kernel_rfl) (by kernel_rfl) (fun _ _ _ h => h) (by kernel_rfl) ?_ (by assumption) ?_
    rotate_left
    · (intro w hSw; (try dsimp only at hSw); go_simp; try with_reducible rfl)
    try simp only [Act.put, List.setIfInBounds_toArray, List.set_cons_succ, List.set_cons_zero]
    refine takeH (i := 5) (d := (some 106)) (v := ?_) rfl rfl (by kernel_rfl) (by kernel_rfl) (by kernel_rfl) (fun _ _ _ h => h) (by kernel_rfl) ?_ (by assumption) ?_
    rotate_left
    · (intro w hSw; (try dsimp only at hSw); go_simp; try with_reducible rfl)
    try simp only [Act.put, List.setIfInBounds_toArray, List.set_cons_succ, List.set_cons_zero]
    refine takeH (i := 6) (d := (some 107)) (v := ?_) rfl rfl (by kernel_rfl) (by kernel_rfl) (by kernel_rfl) (fun _ _ _ h => h) (by kernel_rfl) ?_ (by assumption) ?_
    rotate_left
    · (intro w hSw; (try dsimp only at hSw); go_simp; try with_reducible rfl)
    try simp only [Act.put, List.setIfInBounds_toArray, List.set_cons_succ, List.set_cons_zero]
    refine takeH (i := 7) (d := (some 108)) (v := ?_) rfl rfl (by kernel_rfl) (by kernel_rfl) (by kernel_rfl) (fun _ _ _ h => h) (by kernel_rfl) ?_ (by assumption) ?_
    rotate_left
    · (intro w hSw; (try dsimp only at hSw); go_simp; try with_reducible rfl)
    try simp only [Act.put, List.setIfInBounds_toArray, List.set_cons_succ, List.set_cons_zero]
    refine takeH (i := 8) (d := (some 109)) (v := ?_) rfl rfl (by kernel_rfl) (by kernel_rfl) (by kernel_rfl) (fun _ _ _ h => h) (by kernel_rfl) ?_ (by assumption) ?_
    rotate_left
    · (intro w hSw; (try dsimp only at hSw); go_simp; try with_reducible rfl)
    try simp only [Act.put, List.setIfInBounds_toArray, List.set_cons_succ, List.set_cons_zero]
    refine takeH (i := 9) (d := (some 110)) (v := ?_) rfl rfl (by kernel_rfl) (by kernel_rfl) (by kernel_rfl) (fun _ _ _ h => h) (by kernel_rfl) ?_ (by assumption) ?_
    rotate_left
    · (intro w hSw; (try dsimp only at hSw); go_simp; try with_reducible rfl)
    try simp only [Act.put, List.setIfInBounds_toArray, List.set_cons_succ, List.set_cons_zero]
    refine takeH (i := 10) (d := (some 111)) (v := ?_) rfl rfl (by kernel_rfl) (by kernel_rfl) (by kernel_rfl) (fun _ _ _ h => h) (by kernel_rfl) ?_ (by assumption) ?_
    rotate_left
    · (intro w hSw; (try dsimp only at hSw); go_simp; try with_reducible rfl)
    try simp only [Act.put, List.setIfInBounds_toArray, List.set_cons_succ, List.set_cons_zero]
    refine takeH (i := 11) (d := (some 112)) (v := ?_) rfl rfl (by kernel_rfl) (by kernel_rfl) (by kernel_rfl) (fun _ _ _ h => h) (by kernel_rfl) ?_ (by assumption) ?_
    rotate_left
    · (intro w hSw; (try dsimp only at hSw); go_simp; try with_reducible rfl)
    try simp only [Act.put, List.setIfInBounds_toArray, List.set_cons_succ, List.set_cons_zero]
    refine takeH (i := 12) (d := (some 113)) (v := ?_) rfl rfl (by kernel_rfl) (by kernel_rfl) (by kernel_rfl) (fun _ _ _ h => h) (by kernel_rfl) ?_ (by assumption) ?_
    rotate_left
    · (intro w hSw; (try dsimp only at hSw); go_simp; try with_reducible rfl)
    try simp only [Act.put, List.setIfInBounds_toArray, List.set_cons_succ, List.set_cons_zero]
    refine takeH (i := 13) (d := (some 114)) (v := ?_) rfl rfl (by kernel_rfl) (by kernel_rfl) (by kernel_rfl) (fun _ _ _ h => h) (by kernel_rfl) ?_ (by assumption) ?_
    rotate_left
    · (intro w hSw; (try dsimp only at hSw); go_simp; try with_reducible rfl)
    try simp only [Act.put, List.setIfInBounds_toArray, List.set_cons_succ, List.set_cons_zero]
    refine takeH (i := 14) (d := (some 115)) (v := ?_) rfl rfl (by kernel_rfl) (by kernel_rfl) (by kernel_rfl) (fun _ _ _ h => h) (by kernel_rfl) ?_ (by assumption) ?_
    rotate_left
    · (intro w hSw; (try dsimp only at hSw); go_simp; try with_reducible rfl)
    try simp only [Act.put, List.setIfInBounds_toArray, List.set_cons_succ, List.set_cons_zero]
    refine takeH (i := 15) (d := (some 116)) (v := ?_) rfl rfl (by kernel_rfl) (by kernel_rfl) (by kernel_rfl) (fun _ _ _ h => h) (by kernel_rfl) ?_ (by assumption) ?_
    rotate_left
    · (intro w hSw; (try dsimp only at hSw); go_simp; try with_reducible rfl)
    try simp only [Act.put, List.setIfInBounds_toArray, List.set_cons_succ, List.set_cons_zero]
    refine takeH (i := 16) (d := (some 117)) (v := ?_) rfl rfl (by kernel_rfl) (by kernel_rfl) (by kernel_rfl) (fun _ _ _ h => h) (by kernel_rfl) ?_ (by assumption) ?_
    rotate_left
    · (intro w hSw; (try dsimp only at hSw); go_simp; try with_reducible rfl)
    try simp only [Act.put, List.setIfInBounds_toArray, List.set_cons_succ, List.set_cons_zero]
    refine takeH (i := 17) (d := (some 118)) (v := ?_) rfl rfl (by kernel_rfl) (by kernel_rfl) (by kernel_rfl) (fun _ _ _ h => h) (by kernel_rfl) ?_ (by assumption) ?_
    rotate_left
    · (intro w hSw; (try dsimp only at hSw); go_simp; try with_reducible rfl)
    try simp only [Act.put, List.setIfInBounds_toArray, List.set_cons_succ, List.set_cons_zero]
    refine takeH (i := 18) (d := (some 119)) (v := ?_) rfl rfl (by kernel_rfl) (by kernel_rfl) (by kernel_rfl) (fun _ _ _ h => h) (by kernel_rfl) ?_ (by assumption) ?_
    rotate_left
    · (intro w hSw; (try dsimp only at hSw); go_simp; try with_reducible rfl)
    try simp only [Act.put, List.setIfInBounds_toArray, List.set_cons_succ, List.set_cons_zero]
    refine wpAnyH_ready (rs := [19]) (by kernel_rfl) (by simp) ?_
    refine AllReadyH.cons rfl (fun K hK => ?_) AllReadyH.nil
    go_simp
    refine (implScoresRank_any _ O s _ (readsR_kept rO9 hbb1) (by omega)).mono ?_; rintro e wa2 ⟨rfl, hba2⟩; have hbb2 : Below w9.heap.size w9 wa2 := hbb1.trans (hba2.mono hbb1.size)
    refine hK.out _ _ ?_ (fun hHeld => ?_)
    · exact HS.out _ hbb2
    clear hK K
    try simp only [Act.put, List.setIfInBounds_toArray, List.set_cons_succ, List.set_cons_zero]
    refine takeH (i := 20) (d := (some 121)) (v := ?_) rfl rfl (by kernel_rfl) (by kernel_rfl) (by kernel_rfl) (fun _ _ _ h => h) (by kernel_rfl) ?_ (by assumption) ?_
    rotate_left
    · (intro w hSw; (try dsimp only at hSw); go_simp; try with_reducible rfl)
    try simp only [Act.put, List.setIfInBounds_toArray, List.set_cons_succ, List.set_cons_zero]
    refine takeH (i := 21) (d := (some 122)) (v := ?_) rfl rfl (by kernel_rfl) (by kernel_rfl) (by kernel_rfl) (fun _ _ _ h => h) (by kernel_rfl) ?_ (by assumption) ?_
    rotate_left
    · (intro w hSw; (try dsimp only at hSw); go_simp; try with_reducible rfl)
    try simp only [Act.put, List.setIfInBounds_toArray, List.set_cons_succ, List.set_cons_zero]
    refine takeH (i := 22) (d := (some 123)) (v := ?_) rfl rfl (by kernel_rfl) (by kernel_rfl) (by kernel_rfl) (fun _ _ _ h => h) (by kernel_rfl) ?_ (by assumption) ?_
    rotate_left
    · (intro w hSw; (try dsimp only at hSw); go_simp; try with_reducible rfl)
    try simp only [Act.put, List.setIfInBounds_toArray, List.set_cons_succ, List.set_cons_zero]
    refine takeH (i := 23) (d := (some 124)) (v := ?_) rfl rfl (by kernel_rfl) (by kernel_rfl) (by kernel_rfl) (fun _ _ _ h => h) (by kernel_rfl) ?_ (by assumption) ?_
    rotate_left
    · (intro w hSw; (try dsimp only at hSw); go_simp; try with_reducible rfl)
    try simp only [Act.put, List.setIfInBounds_toArray, List.set_cons_succ, List.set_cons_zero]
    refine takeH (i := 24) (d := (some 125)) (v := ?_) rfl rfl (by kernel_rfl) (by kernel_rfl) (by kernel_rfl) (fun _ _ _ h => h) (by kernel_rfl) ?_ (by assumption) ?_
    rotate_left
    · (intro w hSw; (try dsimp only at hSw); go_simp; try with_reducible rfl)
    try simp only [Act.put, List.setIfInBounds_toArray, List.set_cons_succ, List.set_cons_zero]
    refine takeH (i := 25) (d := (some 126)) (v := ?_) rfl rfl (by kernel_rfl) (by kernel_rfl) (by kernel_rfl) (fun _ _ _ h => h) (by kernel_rfl) ?_ (by assumption) ?_
    rotate_left
    · (intro w hSw; (try dsimp only at hSw); go_simp; try with_reducible rfl)
    try simp only [Act.put, List.setIfInBounds_toArray, List.set_cons_succ, List.set_cons_zero]
    refine takeH (i := 26) (d := (some 127)) (v := ?_) rfl rfl (by kernel_rfl) (by kernel_rfl) (by kernel_rfl) (fun _ _ _ h => h) (by kernel_rfl) ?_ (by assumption) ?_
    rotate_left
    · (intro w hSw; (try dsimp only at hSw); go_simp; try with_reducible rfl)
    try simp only [Act.put, List.setIfInBounds_toArray, List.set_cons_succ, List.set_cons_zero]
    refine takeH (i := 27) (d := (some 128)) (v := ?_) rfl rfl (by kernel_rfl) (by kernel_rfl) (by kernel_rfl) (fun _ _ _ h => h) (by kernel_rfl) ?_ (by assumption) ?_
    rotate_left
    · (intro w hSw; (try dsimp only at hSw); go_simp; try with_reducible rfl)
    try simp only [Act.put, List.setIfInBounds_toArray, List.set_cons_succ, List.set_cons_zero]
    refine takeH (i := 28) (d := (some 129)) (v := ?_) rfl rfl (by kernel_rfl) (by kernel_rfl) (by kernel_rfl) (fun _ _ _ h => h) (by kernel_rfl) ?_ (by assumption) ?_
    rotate_left
    · (intro w hSw; (try dsimp only at hSw); go_simp; try with_reducible rfl)
    try simp only [Act.put, List.setIfInBounds_toArray, List.set_cons_succ, List.set_cons_zero]
    refine wpAnyH_ready (rs := [29]) (by kernel_rfl) (by simp) ?_
    refine AllReadyH.cons rfl (fun K hK => ?_) AllReadyH.nil
    go_simp
    refine (qxS_true _ _ (scDropR O s) _ (readsR_kept rd9 hbb2) (readsR_kept re9 hbb2) (by omega)).mono ?_; rintro e wa3 ⟨rfl, hba3⟩; have hbb3 : Below w9.heap.size w9 wa3 := hbb2.trans (hba3.mono hbb2.size)
    refine hK.out _ _ ?_ (fun hHeld => ?_)
    · exact HS.out _ hbb3
    clear hK K
    try simp only [Act.put, List.setIfInBounds_toArray, List.set_cons_succ, List.set_cons_zero]
    refine takeH (i := 30) (d := (some 131)) (v := ?_) rfl rfl (by kernel_rfl) (by kernel_rfl) (by kernel_rfl) (fun _ _ _ h => h) (by kernel_rfl) ?_ (by assumption) ?_
    rotate_left
    · (intro w hSw; (try dsimp only at hSw); go_simp; try with_reducible rfl)
    try simp only [Act.put, List.setIfInBounds_toArray, List.set_cons_succ, List.set_cons_zero]
    refine takeH (i := 31) (d := (some 2)) (v := ?_) rfl rfl (by kernel_rfl) (by kernel_rfl) (by kernel_rfl) (fun _ _ _ h => h) (by kernel_rfl) ?_ (by assumption) ?_
    rotate_left
    · (intro w hSw; (try dsimp only at hSw); go_simp; try with_reducible rfl)
    try simp only [Act.put, List.setIfInBounds_toArray, List.set_cons_succ, List.set_cons_zero]
    refine wpAnyH_done (by kernel_rfl) ?_ _
    have HF := step HB9 (Nat.le_refl _) hbb3
    clear hHeld
    go_wp2_with fail
    go_ret
    exact ⟨rfl, HF⟩
set_option maxRecDepth 100000 in
theorem lifted (os : Os) (started : os.Started) (H : Type) (enc : TypeId × Value → H) :
    ReturnsInHanded {} Try.checked os 3 .any (Rows.fnScoresPutSpec.pre6 enc Try.prog Try.f3 Rows.fnScoresPutRow.domain false) (Rows.fnScoresPutSpec.post enc Try.prog Try.f3 false true false false) := by
  refine returnsInHanded_of_change (C := Try.checked) own started (by kernel_rfl) Try.func3
    (ChangeSpec.witness6 (enc := enc) (C := Try.checked) false ⟨#[], #[.slice none 0 0], []⟩ 8 (by kernel_rfl) (by kernel_rfl) (by kernel_rfl) (by kernel_rfl)) ?_
  intro W base args ds gs before hval0 hW hcnd _
  have hval : ∀ (j : Nat) t v, Try.f3.params[j]? = some t → args[j]? = some v → Value.okWide Try.prog W .any base t v := hval0
  have hW' := hW
  obtain ⟨p, q, hA0, hV, rfl, hfz, hnd⟩ := hW
  have hA : DataW.TrodAll enc Try.prog W 0 (fun _ => true) true Try.f3.params.toList args.toList ds p := hA0
  rw [Try.params3] at hA hval
  obtain ⟨v0, vs0, d0, ds0, p0, q0, hargs, rfl, rfl, h0, r0⟩ := trodAll_cons hA
  obtain ⟨rfl, rfl, rfl⟩ := trodAll_nil r0
  obtain rfl : args = #[v0] := by cases args; simp_all
  obtain ⟨rfl, rfl⟩ := trodVars_none hV
  obtain ⟨a0, len0, cap0, rfl⟩ := okWide_slice Try.underlying22 (hval 0 22 v0 rfl rfl)
  have k0 := h0
  have lt0 : ∀ x ∈ p0, x.block < W.heap.size := by obtain ⟨m, hm⟩ := k0; exact DataW.trod_lt m _ _ _ hm
  obtain ⟨z0, w0⟩ : ∃ zs, IsBytes W (.slice a0 len0 cap0) zs := by
    obtain ⟨fuel, hf⟩ := h0
    rcases open_ints Try.underlying22 Try.underlying5 (by kernel_rfl) hf with ⟨hcs, _⟩ | ⟨x, ln, cp, zs, hcs, _, hl, hm, hz, _, hcell, hwz⟩
    · exact bytes_of_none (by simpa [Value.cells] using hcs)
    · exact bytes_of_some (by simpa [Value.cells] using hcs) hl hm (by simpa using hz) hcell hwz
  clear hA0 hval0
  refine (walk (.slice a0 len0 cap0) z0 W w0).mono fun e W' ⟨he, bel⟩ => ?_
  subst he
  exact ⟨_, rfl, _, _, _, [], _, [], hW', trodAll_mk1 (shut_bool Try.underlying4 _), (trodAll_cons_mk (Below.trod laidOut (by kernel_rfl) (of_decide_eq_true (by kernel_rfl)) k0 bel lt0) trodAll_mk0), rfl, bel.frame _, fun h => by cases h⟩

theorem over : Rows.fnScoresPutRow.holds Try.pinned (OpenSpec.ofChange Rows.fnScoresPutSpec) :=
  OpenClaim.holds_of_wide 3 Try.f3 rfl rfl rfl rfl rfl rfl rfl ⟨rfl, rfl, rfl, rfl, rfl⟩ rfl rfl rfl rfl rfl (by kernel_rfl) Try.func3 (by kernel_rfl)
    (of_decide_eq_true (by kernel_rfl)) (by unfold Func.isWrapper; first | (rw [if_pos (by decide +kernel)]; kernel_rfl) | (rw [if_neg (by decide +kernel)]; exact ⟨rfl, rfl⟩))
    (fun os started H enc _ => lifted os started H enc)

theorem proved : Rows.FnScoresPutSaid := over
end Go.Proofs.Ytfnbjjcelncliaa.fnScoresPut
