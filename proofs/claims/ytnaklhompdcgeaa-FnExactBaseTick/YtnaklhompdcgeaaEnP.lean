/- The program's copy of an entry; what stands under a key. -/
import Derived.Test.YtnaklhompdcgeaaEnW2
import Derived.Test.YtnaklhompdcgeaaCopyS
import Derived.Test.YtnaklhompdcgeaaScCl
import Derived.Test.YtnaklhompdcgeaaPrCl
namespace Go.Proofs.Ytnaklhompdcgeaa
open Go.RowKit
set_option linter.unusedVariables false

set_option maxHeartbeats 4000000 in
theorem strClone_any (v : Value) (l : List ByteArray) (w : World) (hr : Reads w v l) (hlen : l.length ≤ 1048576) :
    Calls Try.prog 31 #[v] w fun e w' => ∃ v', e = .returned v' ∧ Owns w' w.heap.size v' l ∧ Below w.heap.size w w' := by
  obtain ⟨i0, hi, hz0, hz1, hz2⟩ := info_parts infoS
  have hown0 : (w.alloc (.cells #[] 9)).ownsRow w.heap.size 9 1 (.slice (some ⟨w.heap.size, 0, none⟩) 0 0) 0 [] := World.ownsRow_lit w #[] 0 (Nat.le_refl _) (by simp) rfl
  have hB0 : Below w.heap.size w (w.alloc (.cells #[] 9)) := (Below.refl _ _).alloc (Nat.le_refl _) _
  have hnil := fun (w : World) (a : Option Addr) (n c : Nat) => Lib.run_eql_slice_nil (P := Try.prog) w 39 9 a n c 0 0 Try.underlying39
  rcases hr with ⟨rfl, ao, cap, rfl, hcap⟩ | ⟨h0, b, off, cap, rfl, hb, hnc, hcm, hc⟩
  · cases ao with
    | none =>
      obtain rfl := hcap rfl
      go_enter Try.func31, Try.ntmps31
      go_wp2_with fail
      go_ret
      exact ⟨_, rfl, World.ownsRow_nil _ _ _ _, Below.refl _ _⟩
    | some a =>
      go_enter Try.func31, Try.ntmps31
      go_wp2_with (at_builtin; refine wpList_append_own _ rfl (.tmp 5) (.tmp 6) 39 rfl w.heap.size 9 i0 (.string ByteArray.empty) 1 16 Try.underlying39 hi hz0 hz1 hz2 rfl (by decide) _ _ _ rfl hown0 a 0 cap [] rfl rfl (by simp) (by simp) (by simp) (by simp) (by simp) ?_)
      intro v' w1 hown hgrow _
      go_wp2_with fail
      go_ret
      exact ⟨_, rfl, hown, hB0.grown hgrow (by simp) (fun k hk => (hown0.lt k hk).1)⟩
  · have hc' : ∀ k, k < l.length → (w.alloc (.cells #[] 9)).cell? ⟨b, off + k, none⟩ = some (.string (at_ l k)) := fun k hk => (hB0.cell (p := ⟨b, off + k, none⟩) hb).trans (hc k hk)
    go_enter Try.func31, Try.ntmps31
    go_wp2_with (at_builtin; refine wpList_append_own _ rfl (.tmp 5) (.tmp 6) 39 rfl w.heap.size 9 i0 (.string ByteArray.empty) 1 16 Try.underlying39 hi hz0 hz1 hz2 rfl (by decide) _ _ _ rfl hown0 ⟨b, off, none⟩ l.length cap (l.map Value.string) rfl (by simp) (strs_at hc') (strs_one l) (by unfold maxLen; omega) (by omega) (by simp) ?_)
    intro v' w1 hown hgrow _
    go_wp2_with fail
    go_ret
    exact ⟨_, rfl, hown, hB0.grown hgrow (by simp) (fun k hk => (hown0.lt k hk).1)⟩

set_option maxHeartbeats 8000000 in
theorem copyEntry_any (e : Ent) (vl vs vf : Value) (w : World) (hr : EnReads w vl vs vf e) (hs : EnSmall e) :
    Calls Try.prog 20 #[enV e vl vs vf] w fun x w' => (∃ ul us uf, x = .returned (enV e ul us uf) ∧ EnOwn w' w.heap.size w'.heap.size ul us uf e) ∧ Below w.heap.size w w' := by
  obtain ⟨al, cl, as_, cs, af, cf, rfl, rfl, rfl⟩ := enReads_shape hr
  have hA : ∀ A B, Below w.heap.size w ((w.alloc A).alloc B) := fun A B => ((Below.refl _ w).alloc (Nat.le_refl _) A).alloc (by simp) B
  go_enter Try.func20, Try.ntmps20
  go_wp2_with fail
  obtain ⟨w0, hW⟩ : ∃ W, (w.alloc (.cells #[.string e.key, .int .i64 e.til, .int .i64 e.kind, .string e.text, .slice al e.list.length cl, .slice as_ e.scores.length cs, .slice af e.fields.length cf] 43)).alloc (.cells #[.string ⟨#[]⟩, .int .i64 0, .int .i64 0, .string ⟨#[]⟩, .slice none 0 0, .slice none 0 0, .slice none 0 0] 43) = W := ⟨_, rfl⟩
  have hB0 : Below w.heap.size w w0 := by rw [← hW]; exact hA _ _
  have hz0 : w0.heap.size = w.heap.size + 2 := by rw [← hW]; simp
  obtain ⟨q0, q1⟩ : w0.heap[w.heap.size]? = some _ ∧ w0.heap[w.heap.size + 1]? = some _ := by rw [← hW]; exact two_rows _ _ _
  rw [hW]
  have Q0 : Hid _ := q0
  have Q1 : Hid _ := q1
  clear hW hA q0 q1
  refine (strClone_any _ e.list _ (reads_kept hr.l hB0) hs.list).mono ?_
  rintro x w1 ⟨ul, rfl, ol, hb1⟩
  have hB1 := hB0.trans (hb1.mono hB0.size)
  have ol1 : Own w1 (w.heap.size + 2) w1.heap.size ul e.list := by rw [← hz0]; exact own_of ol
  have hz1 := hb1.size
  rw [hz0] at hz1
  have q0 := (hb1.block w.heap.size (by omega)).trans Q0.out
  have q1 := (hb1.block (w.heap.size + 1) (by omega)).trans Q1.out
  obtain ⟨bl, dl, rfl⟩ := reads_shape (own_reads ol1)
  have d4x : w1.cell? ⟨w.heap.size, 4, none⟩ = some _ := (box7_row q0).c4
  have f4x : ∀ o, w1.frozen? ⟨w.heap.size, o, none⟩ = false := fun o => by simp [World.frozen?, q0]
  have c5x : w1.cell? ⟨w.heap.size, 5, none⟩ = some _ := (box7_row q0).c5
  have R0 : Hid _ := q0
  have R1 : Hid _ := q1
  clear q0 q1 ol hb1 hB0 Q0 Q1 
  go_wp2_with fail
  obtain ⟨w1s, hW⟩ : ∃ W, w1.setCell ⟨w.heap.size, 4, none⟩ (.slice bl e.list.length dl) = W := ⟨_, rfl⟩
  have hb1 : Below w.heap.size w1 w1s := by rw [← hW]; exact (Below.refl w.heap.size w1).setCell (p := ⟨w.heap.size, 4, none⟩) (Nat.le_refl _) _
  have hz1s : w1s.heap.size = w1.heap.size := by rw [← hW]; exact setCell_size _ _ _
  have q0 : w1s.heap[w.heap.size]? = some (.cells #[.string e.key, .int .i64 e.til, .int .i64 e.kind, .string e.text, .slice bl e.list.length dl, .slice as_ e.scores.length cs, .slice af e.fields.length cf] 43 (0, 0)) := by rw [← hW, heap_setCell_same _ w.heap.size 4 _ _ _ R0.out]; rfl
  have q1 := ((by rw [← hW]; exact Below.heap_setCell _ _ _ _ (by show w.heap.size + 1 ≠ w.heap.size; omega) : w1s.heap[w.heap.size + 1]? = w1.heap[w.heap.size + 1]?)).trans R1.out
  have ol1s := (by rw [← hW]; exact own_cell ol1 _ _ (by show w.heap.size < _; omega) : Own w1s _ _ _ e.list)
  have hB1s := hB1.trans hb1
  rw [hW]
  have S0 : Hid _ := q0
  have S1 : Hid _ := q1
  clear hW hb1 q0 q1 d4x f4x c5x R0 R1 hB1 ol1
  refine (scClone_any _ e.scores _ (readsR_kept hr.s hB1s) hs.scores).mono ?_
  rintro x w2 ⟨us, rfl, os, hb2⟩
  have hB2 := hB1s.trans (hb2.mono hB1s.size)
  have os2 : ScOwn w2 (w1.heap.size) w2.heap.size us e.scores := by rw [← hz1s]; exact ownR_of os
  have ol2 := own_kept ol1s hb2
  have hz2 := hb2.size
  rw [hz1s] at hz2
  have q0 := (hb2.block w.heap.size (by omega)).trans S0.out
  have q1 := (hb2.block (w.heap.size + 1) (by omega)).trans S1.out
  obtain ⟨b2, d2, rfl⟩ := readsR_shape (ownR_reads scC_len os2)
  have d5x : w2.cell? ⟨w.heap.size, 5, none⟩ = some _ := (box7_row q0).c5
  have f5x : ∀ o, w2.frozen? ⟨w.heap.size, o, none⟩ = false := fun o => by simp [World.frozen?, q0]
  have c6x : w2.cell? ⟨w.heap.size, 6, none⟩ = some _ := (box7_row q0).c6
  have R0 : Hid _ := q0
  have R1 : Hid _ := q1
  clear q0 q1 os hb2 hB1s S0 S1 ol1s
  go_wp2_with fail
  obtain ⟨w2s, hW⟩ : ∃ W, w2.setCell ⟨w.heap.size, 5, none⟩ (.slice b2 e.scores.length d2) = W := ⟨_, rfl⟩
  have hb2 : Below w.heap.size w2 w2s := by rw [← hW]; exact (Below.refl w.heap.size w2).setCell (p := ⟨w.heap.size, 5, none⟩) (Nat.le_refl _) _
  have hz2s : w2s.heap.size = w2.heap.size := by rw [← hW]; exact setCell_size _ _ _
  have q0 : w2s.heap[w.heap.size]? = some (.cells #[.string e.key, .int .i64 e.til, .int .i64 e.kind, .string e.text, .slice bl e.list.length dl, .slice b2 e.scores.length d2, .slice af e.fields.length cf] 43 (0, 0)) := by rw [← hW, heap_setCell_same _ w.heap.size 5 _ _ _ R0.out]; rfl
  have q1 := ((by rw [← hW]; exact Below.heap_setCell _ _ _ _ (by show w.heap.size + 1 ≠ w.heap.size; omega) : w2s.heap[w.heap.size + 1]? = w2.heap[w.heap.size + 1]?)).trans R1.out
  have ol2s := (by rw [← hW]; exact own_cell ol2 _ _ (by show w.heap.size < _; omega) : Own w2s _ _ _ e.list)
  have os2s := (by rw [← hW]; exact ownR_cell os2 _ _ (by show w.heap.size < _; omega) : ScOwn w2s _ _ _ e.scores)
  have hB2s := hB2.trans hb2
  rw [hW]
  have S0 : Hid _ := q0
  have S1 : Hid _ := q1
  clear hW hb2 q0 q1 d5x f5x c6x R0 R1 hB2 ol2 os2
  refine (prClone_any _ e.fields _ (readsR_kept hr.f hB2s) hs.fields).mono ?_
  rintro x w3 ⟨uf, rfl, of, hb3⟩
  have hB3 := hB2s.trans (hb3.mono hB2s.size)
  have of3 : PrOwn w3 (w2.heap.size) w3.heap.size uf e.fields := by rw [← hz2s]; exact ownR_of of
  have ol3 := own_kept ol2s hb3
  have os3 := ownR_kept os2s hb3
  have hz3 := hb3.size
  rw [hz2s] at hz3
  have q0 := (hb3.block w.heap.size (by omega)).trans S0.out
  have q1 := (hb3.block (w.heap.size + 1) (by omega)).trans S1.out
  obtain ⟨b3, d3, rfl⟩ := readsR_shape (ownR_reads prC_len of3)
  have d6x : w3.cell? ⟨w.heap.size, 6, none⟩ = some _ := (box7_row q0).c6
  have f6x : ∀ o, w3.frozen? ⟨w.heap.size, o, none⟩ = false := fun o => by simp [World.frozen?, q0]
  have c0x : w3.cell? ⟨w.heap.size, 0, none⟩ = some _ := (box7_row q0).c0
  have c1x : w3.cell? ⟨w.heap.size, 1, none⟩ = some _ := (box7_row q0).c1
  have c2x : w3.cell? ⟨w.heap.size, 2, none⟩ = some _ := (box7_row q0).c2
  have c3x : w3.cell? ⟨w.heap.size, 3, none⟩ = some _ := (box7_row q0).c3
  have c4x : w3.cell? ⟨w.heap.size, 4, none⟩ = some _ := (box7_row q0).c4
  have c5x : w3.cell? ⟨w.heap.size, 5, none⟩ = some _ := (box7_row q0).c5
  have e0x : w3.cell? ⟨w.heap.size + 1, 0, none⟩ = some _ := (box7_row q1).c0
  have e1x : w3.cell? ⟨w.heap.size + 1, 1, none⟩ = some _ := (box7_row q1).c1
  have e2x : w3.cell? ⟨w.heap.size + 1, 2, none⟩ = some _ := (box7_row q1).c2
  have e3x : w3.cell? ⟨w.heap.size + 1, 3, none⟩ = some _ := (box7_row q1).c3
  have e4x : w3.cell? ⟨w.heap.size + 1, 4, none⟩ = some _ := (box7_row q1).c4
  have e5x : w3.cell? ⟨w.heap.size + 1, 5, none⟩ = some _ := (box7_row q1).c5
  have e6x : w3.cell? ⟨w.heap.size + 1, 6, none⟩ = some _ := (box7_row q1).c6
  have g0x : ∀ o, w3.frozen? ⟨w.heap.size + 1, o, none⟩ = false := fun o => by simp [World.frozen?, q1]
  have R0 : Hid _ := q0
  have R1 : Hid _ := q1
  clear q0 q1 of hb3 hB2s S0 S1 ol2s os2s
  go_wp2_with fail
  have hk : ∀ (P : World → Prop), (∀ W a u, a.block < w.heap.size + 2 → w.heap.size ≤ a.block → P W → P (W.setCell a u)) → P w3 → P ((((((((w3.setCell ⟨w.heap.size, 6, none⟩ (.slice b3 e.fields.length d3)).setCell ⟨w.heap.size + 1, 0, none⟩ (.string e.key)).setCell ⟨w.heap.size + 1, 1, none⟩ (.int .i64 e.til)).setCell ⟨w.heap.size + 1, 2, none⟩ (.int .i64 e.kind)).setCell ⟨w.heap.size + 1, 3, none⟩ (.string e.text)).setCell ⟨w.heap.size + 1, 4, none⟩ (.slice bl e.list.length dl)).setCell ⟨w.heap.size + 1, 5, none⟩ (.slice b2 e.scores.length d2)).setCell ⟨w.heap.size + 1, 6, none⟩ (.slice b3 e.fields.length d3)) := by
    intro P hs h
    exact hs _ _ _ (by show w.heap.size + 1 < _; omega) (by show _ ≤ w.heap.size + 1; omega) (hs _ _ _ (by show w.heap.size + 1 < _; omega) (by show _ ≤ w.heap.size + 1; omega) (hs _ _ _ (by show w.heap.size + 1 < _; omega) (by show _ ≤ w.heap.size + 1; omega) (hs _ _ _ (by show w.heap.size + 1 < _; omega) (by show _ ≤ w.heap.size + 1; omega) (hs _ _ _ (by show w.heap.size + 1 < _; omega) (by show _ ≤ w.heap.size + 1; omega) (hs _ _ _ (by show w.heap.size + 1 < _; omega) (by show _ ≤ w.heap.size + 1; omega) (hs _ _ _ (by show w.heap.size + 1 < _; omega) (by show _ ≤ w.heap.size + 1; omega) (hs _ _ _ (by show w.heap.size < _; omega) (by show _ ≤ w.heap.size; omega) h)))))))
  refine bodyPost_ret (results_cell_row rfl _ _ (w.heap.size + 1) 43 _ (0, 0) _ rfl (box7_set ((Below.heap_setCell w3 _ _ _ (by show w.heap.size + 1 ≠ w.heap.size; omega)).trans R1.out) _ _ _ _ _ _ _) Try.underlying43 rfl (by kernel_rfl)) rfl ?_
  refine ⟨⟨_, _, _, rfl, w1.heap.size, w2.heap.size, by omega, by omega, ?_, ?_, ?_, ?_⟩, ?_⟩
  · exact hk (fun W => w2.heap.size ≤ W.heap.size) (fun W a u _ _ h => by rw [setCell_size]; exact h) hz3
  · have := hk (fun W => Own W (w.heap.size + 2) w1.heap.size _ e.list) (fun W a u h1 _ h => own_cell h a u h1) ol3
    exact ⟨owns_base this.1 (by omega), this.2⟩
  · exact hk (fun W => ScOwn W w1.heap.size w2.heap.size _ e.scores) (fun W a u h1 _ h => ownR_cell h a u (by omega)) os3
  · have := hk (fun W => PrOwn W w2.heap.size w3.heap.size _ e.fields) (fun W a u h1 _ h => ownR_cell h a u (by omega)) of3
    exact ⟨this.1, fun k hk' => Nat.lt_of_lt_of_le (this.2 k hk') (hk (fun W => w3.heap.size ≤ W.heap.size) (fun W a u _ _ h => by rw [setCell_size]; exact h) (Nat.le_refl _))⟩
  · exact hk (fun W => Below w.heap.size w W) (fun W a u _ h2 h => h.setCell h2 u) hB3
end Go.Proofs.Ytnaklhompdcgeaa
