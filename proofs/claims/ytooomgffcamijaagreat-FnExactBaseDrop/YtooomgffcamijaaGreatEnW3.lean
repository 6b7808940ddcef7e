/- Several texts in one: EnP EnQ EnR EnS EnT EnU. -/
import Derived.Test.YtooomgffcamijaaGreatEnN
import Derived.Test.YtooomgffcamijaaGreatCopyS
import Derived.Test.YtooomgffcamijaaGreatScCl
import Derived.Test.YtooomgffcamijaaGreatPrCl
import Derived.Test.YtooomgffcamijaaGreatAp
import Derived.Sort.Walk0
/- The program's copy of an entry; what stands under a key. -/
namespace Go.Proofs.YtooomgffcamijaaGreat
open Go.RowKit
set_option linter.unusedVariables false

set_option maxHeartbeats 4000000 in
theorem strClone_any (v : Value) (l : List ByteArray) (w : World) (hr : Reads w v l) (hlen : l.length ≤ 1048576) :
    Calls Tryz.prog 60 #[v] w fun e w' => ∃ v', e = .returned v' ∧ Owns w' w.heap.size v' l ∧ Below w.heap.size w w' := by
  obtain ⟨i0, hi, hz0, hz1, hz2⟩ := info_parts infoS
  have hown0 : (w.alloc (.cells #[] 9)).ownsRow w.heap.size 9 1 (.slice (some ⟨w.heap.size, 0, none⟩) 0 0) 0 [] := World.ownsRow_lit w #[] 0 (Nat.le_refl _) (by simp) rfl
  have hB0 : Below w.heap.size w (w.alloc (.cells #[] 9)) := (Below.refl _ _).alloc (Nat.le_refl _) _
  have hnil := fun (w : World) (a : Option Addr) (n c : Nat) => Lib.run_eql_slice_nil (P := Tryz.prog) w 45 9 a n c 0 0 Tryz.underlying45
  rcases hr with ⟨rfl, ao, cap, rfl, hcap⟩ | ⟨h0, b, off, cap, rfl, hb, hnc, hcm, hc⟩
  · cases ao with
    | none =>
      obtain rfl := hcap rfl
      go_enter Tryz.func60, Tryz.ntmps60
      go_wp2_with fail
      go_ret
      exact ⟨_, rfl, World.ownsRow_nil _ _ _ _, Below.refl _ _⟩
    | some a =>
      go_enter Tryz.func60, Tryz.ntmps60
      go_wp2_with (at_builtin; refine wpList_append_own _ rfl (.tmp 5) (.tmp 6) 45 rfl w.heap.size 9 i0 (.string ByteArray.empty) 1 16 Tryz.underlying45 hi hz0 hz1 hz2 rfl (by decide) _ _ _ rfl hown0 a 0 cap [] rfl rfl (by simp) (by simp) (by simp) (by simp) (by simp) ?_)
      intro v' w1 hown hgrow _
      go_wp2_with fail
      go_ret
      exact ⟨_, rfl, hown, hB0.grown hgrow (by simp) (fun k hk => (hown0.lt k hk).1)⟩
  · have hc' : ∀ k, k < l.length → (w.alloc (.cells #[] 9)).cell? ⟨b, off + k, none⟩ = some (.string (at_ l k)) := fun k hk => (hB0.cell (p := ⟨b, off + k, none⟩) hb).trans (hc k hk)
    go_enter Tryz.func60, Tryz.ntmps60
    go_wp2_with (at_builtin; refine wpList_append_own _ rfl (.tmp 5) (.tmp 6) 45 rfl w.heap.size 9 i0 (.string ByteArray.empty) 1 16 Tryz.underlying45 hi hz0 hz1 hz2 rfl (by decide) _ _ _ rfl hown0 ⟨b, off, none⟩ l.length cap (l.map Value.string) rfl (by simp) (strs_at hc') (strs_one l) (by unfold maxLen; omega) (by omega) (by simp) ?_)
    intro v' w1 hown hgrow _
    go_wp2_with fail
    go_ret
    exact ⟨_, rfl, hown, hB0.grown hgrow (by simp) (fun k hk => (hown0.lt k hk).1)⟩

set_option maxHeartbeats 8000000 in
theorem copyEntry_any (e : Ent) (vl vs vf : Value) (w : World) (hr : EnReads w vl vs vf e) (hs : EnSmall e) :
    Calls Tryz.prog 31 #[enV e vl vs vf] w fun x w' => (∃ ul us uf, x = .returned (enV e ul us uf) ∧ EnOwn w' w.heap.size w'.heap.size ul us uf e) ∧ Below w.heap.size w w' := by
  obtain ⟨al, cl, as_, cs, af, cf, rfl, rfl, rfl⟩ := enReads_shape hr
  have hA : ∀ A B, Below w.heap.size w ((w.alloc A).alloc B) := fun A B => ((Below.refl _ w).alloc (Nat.le_refl _) A).alloc (by simp) B
  go_enter Tryz.func31, Tryz.ntmps31
  go_wp2_with fail
  obtain ⟨w0, hW⟩ : ∃ W, (w.alloc (.cells #[.string e.key, .int .i64 e.til, .int .i64 e.kind, .string e.text, .slice al e.list.length cl, .slice as_ e.scores.length cs, .slice af e.fields.length cf] 53)).alloc (.cells #[.string ⟨#[]⟩, .int .i64 0, .int .i64 0, .string ⟨#[]⟩, .slice none 0 0, .slice none 0 0, .slice none 0 0] 53) = W := ⟨_, rfl⟩
  have hB0 : Below w.heap.size w w0 := by rw [← hW]; exact hA _ _
  have hz0 : w0.heap.size = w.heap.size + 2 := by rw [← hW]; simp
  obtain ⟨q0, q1⟩ : w0.heap[w.heap.size]? = some _ ∧ w0.heap[w.heap.size + 1]? = some _ := by rw [← hW]; exact two_rows _ _ _
  rw [hW]
  have Q0 : Hid _ := q0
  have Q1 : Hid _ := q1
  clear hW hA q0 q1
  refine (strClone_any _ e.list _ (reads_kept hr.l hB0) hs.list).mono ?_
  rintro x w1 ⟨ul, rfl, ol, hb1⟩
  have hB1 := hB0.trans (hb1.mono hB0.size)
  have ol1 : Own w1 (w.heap.size + 2) w1.heap.size ul e.list := by rw [← hz0]; exact own_of ol
  have hz1 := hb1.size
  rw [hz0] at hz1
  have q0 := (hb1.block w.heap.size (by omega)).trans Q0.out
  have q1 := (hb1.block (w.heap.size + 1) (by omega)).trans Q1.out
  obtain ⟨bl, dl, rfl⟩ := reads_shape (own_reads ol1)
  have d4x : w1.cell? ⟨w.heap.size, 4, none⟩ = some _ := (box7_row q0).c4
  have f4x : ∀ o, w1.frozen? ⟨w.heap.size, o, none⟩ = false := fun o => by simp [World.frozen?, q0]
  have c5x : w1.cell? ⟨w.heap.size, 5, none⟩ = some _ := (box7_row q0).c5
  have R0 : Hid _ := q0
  have R1 : Hid _ := q1
  clear q0 q1 ol hb1 hB0 Q0 Q1 
  go_wp2_with fail
  obtain ⟨w1s, hW⟩ : ∃ W, w1.setCell ⟨w.heap.size, 4, none⟩ (.slice bl e.list.length dl) = W := ⟨_, rfl⟩
  have hb1 : Below w.heap.size w1 w1s := by rw [← hW]; exact (Below.refl w.heap.size w1).setCell (p := ⟨w.heap.size, 4, none⟩) (Nat.le_refl _) _
  have hz1s : w1s.heap.size = w1.heap.size := by rw [← hW]; exact setCell_size _ _ _
  have q0 : w1s.heap[w.heap.size]? = some (.cells #[.string e.key, .int .i64 e.til, .int .i64 e.kind, .string e.text, .slice bl e.list.length dl, .slice as_ e.scores.length cs, .slice af e.fields.length cf] 53 (0, 0)) := by rw [← hW, heap_setCell_same _ w.heap.size 4 _ _ _ R0.out]; rfl
  have q1 := ((by rw [← hW]; exact Below.heap_setCell _ _ _ _ (by show w.heap.size + 1 ≠ w.heap.size; omega) : w1s.heap[w.heap.size + 1]? = w1.heap[w.heap.size + 1]?)).trans R1.out
  have ol1s := (by rw [← hW]; exact own_cell ol1 _ _ (by show w.heap.size < _; omega) : Own w1s _ _ _ e.list)
  have hB1s := hB1.trans hb1
  rw [hW]
  have S0 : Hid _ := q0
  have S1 : Hid _ := q1
  clear hW hb1 q0 q1 d4x f4x c5x R0 R1 hB1 ol1
  refine (scClone_any _ e.scores _ (readsR_kept hr.s hB1s) hs.scores).mono ?_
  rintro x w2 ⟨us, rfl, os, hb2⟩
  have hB2 := hB1s.trans (hb2.mono hB1s.size)
  have os2 : ScOwn w2 (w1.heap.size) w2.heap.size us e.scores := by rw [← hz1s]; exact ownR_of os
  have ol2 := own_kept ol1s hb2
  have hz2 := hb2.size
  rw [hz1s] at hz2
  have q0 := (hb2.block w.heap.size (by omega)).trans S0.out
  have q1 := (hb2.block (w.heap.size + 1) (by omega)).trans S1.out
  obtain ⟨b2, d2, rfl⟩ := readsR_shape (ownR_reads scC_len os2)
  have d5x : w2.cell? ⟨w.heap.size, 5, none⟩ = some _ := (box7_row q0).c5
  have f5x : ∀ o, w2.frozen? ⟨w.heap.size, o, none⟩ = false := fun o => by simp [World.frozen?, q0]
  have c6x : w2.cell? ⟨w.heap.size, 6, none⟩ = some _ := (box7_row q0).c6
  have R0 : Hid _ := q0
  have R1 : Hid _ := q1
  clear q0 q1 os hb2 hB1s S0 S1 ol1s
  go_wp2_with fail
  obtain ⟨w2s, hW⟩ : ∃ W, w2.setCell ⟨w.heap.size, 5, none⟩ (.slice b2 e.scores.length d2) = W := ⟨_, rfl⟩
  have hb2 : Below w.heap.size w2 w2s := by rw [← hW]; exact (Below.refl w.heap.size w2).setCell (p := ⟨w.heap.size, 5, none⟩) (Nat.le_refl _) _
  have hz2s : w2s.heap.size = w2.heap.size := by rw [← hW]; exact setCell_size _ _ _
  have q0 : w2s.heap[w.heap.size]? = some (.cells #[.string e.key, .int .i64 e.til, .int .i64 e.kind, .string e.text, .slice bl e.list.length dl, .slice b2 e.scores.length d2, .slice af e.fields.length cf] 53 (0, 0)) := by rw [← hW, heap_setCell_same _ w.heap.size 5 _ _ _ R0.out]; rfl
  have q1 := ((by rw [← hW]; exact Below.heap_setCell _ _ _ _ (by show w.heap.size + 1 ≠ w.heap.size; omega) : w2s.heap[w.heap.size + 1]? = w2.heap[w.heap.size + 1]?)).trans R1.out
  have ol2s := (by rw [← hW]; exact own_cell ol2 _ _ (by show w.heap.size < _; omega) : Own w2s _ _ _ e.list)
  have os2s := (by rw [← hW]; exact ownR_cell os2 _ _ (by show w.heap.size < _; omega) : ScOwn w2s _ _ _ e.scores)
  have hB2s := hB2.trans hb2
  rw [hW]
  have S0 : Hid _ := q0
  have S1 : Hid _ := q1
  clear hW hb2 q0 q1 d5x f5x c6x R0 R1 hB2 ol2 os2
  refine (prClone_any _ e.fields _ (readsR_kept hr.f hB2s) hs.fields).mono ?_
  rintro x w3 ⟨uf, rfl, of, hb3⟩
  have hB3 := hB2s.trans (hb3.mono hB2s.size)
  have of3 : PrOwn w3 (w2.heap.size) w3.heap.size uf e.fields := by rw [← hz2s]; exact ownR_of of
  have ol3 := own_kept ol2s hb3
  have os3 := ownR_kept os2s hb3
  have hz3 := hb3.size
  rw [hz2s] at hz3
  have q0 := (hb3.block w.heap.size (by omega)).trans S0.out
  have q1 := (hb3.block (w.heap.size + 1) (by omega)).trans S1.out
  obtain ⟨b3, d3, rfl⟩ := readsR_shape (ownR_reads prC_len of3)
  have d6x : w3.cell? ⟨w.heap.size, 6, none⟩ = some _ := (box7_row q0).c6
  have f6x : ∀ o, w3.frozen? ⟨w.heap.size, o, none⟩ = false := fun o => by simp [World.frozen?, q0]
  have c0x : w3.cell? ⟨w.heap.size, 0, none⟩ = some _ := (box7_row q0).c0
  have c1x : w3.cell? ⟨w.heap.size, 1, none⟩ = some _ := (box7_row q0).c1
  have c2x : w3.cell? ⟨w.heap.size, 2, none⟩ = some _ := (box7_row q0).c2
  have c3x : w3.cell? ⟨w.heap.size, 3, none⟩ = some _ := (box7_row q0).c3
  have c4x : w3.cell? ⟨w.heap.size, 4, none⟩ = some _ := (box7_row q0).c4
  have c5x : w3.cell? ⟨w.heap.size, 5, none⟩ = some _ := (box7_row q0).c5
  have e0x : w3.cell? ⟨w.heap.size + 1, 0, none⟩ = some _ := (box7_row q1).c0
  have e1x : w3.cell? ⟨w.heap.size + 1, 1, none⟩ = some _ := (box7_row q1).c1
  have e2x : w3.cell? ⟨w.heap.size + 1, 2, none⟩ = some _ := (box7_row q1).c2
  have e3x : w3.cell? ⟨w.heap.size + 1, 3, none⟩ = some _ := (box7_row q1).c3
  have e4x : w3.cell? ⟨w.heap.size + 1, 4, none⟩ = some _ := (box7_row q1).c4
  have e5x : w3.cell? ⟨w.heap.size + 1, 5, none⟩ = some _ := (box7_row q1).c5
  have e6x : w3.cell? ⟨w.heap.size + 1, 6, none⟩ = some _ := (box7_row q1).c6
  have g0x : ∀ o, w3.frozen? ⟨w.heap.size + 1, o, none⟩ = false := fun o => by simp [World.frozen?, q1]
  have R0 : Hid _ := q0
  have R1 : Hid _ := q1
  clear q0 q1 of hb3 hB2s S0 S1 ol2s os2s
  go_wp2_with fail
  have hk : ∀ (P : World → Prop), (∀ W a u, a.block < w.heap.size + 2 → w.heap.size ≤ a.block → P W → P (W.setCell a u)) → P w3 → P ((((((((w3.setCell ⟨w.heap.size, 6, none⟩ (.slice b3 e.fields.length d3)).setCell ⟨w.heap.size + 1, 0, none⟩ (.string e.key)).setCell ⟨w.heap.size + 1, 1, none⟩ (.int .i64 e.til)).setCell ⟨w.heap.size + 1, 2, none⟩ (.int .i64 e.kind)).setCell ⟨w.heap.size + 1, 3, none⟩ (.string e.text)).setCell ⟨w.heap.size + 1, 4, none⟩ (.slice bl e.list.length dl)).setCell ⟨w.heap.size + 1, 5, none⟩ (.slice b2 e.scores.length d2)).setCell ⟨w.heap.size + 1, 6, none⟩ (.slice b3 e.fields.length d3)) := by
    intro P hs h
    exact hs _ _ _ (by show w.heap.size + 1 < _; omega) (by show _ ≤ w.heap.size + 1; omega) (hs _ _ _ (by show w.heap.size + 1 < _; omega) (by show _ ≤ w.heap.size + 1; omega) (hs _ _ _ (by show w.heap.size + 1 < _; omega) (by show _ ≤ w.heap.size + 1; omega) (hs _ _ _ (by show w.heap.size + 1 < _; omega) (by show _ ≤ w.heap.size + 1; omega) (hs _ _ _ (by show w.heap.size + 1 < _; omega) (by show _ ≤ w.heap.size + 1; omega) (hs _ _ _ (by show w.heap.size + 1 < _; omega) (by show _ ≤ w.heap.size + 1; omega) (hs _ _ _ (by show w.heap.size + 1 < _; omega) (by show _ ≤ w.heap.size + 1; omega) (hs _ _ _ (by show w.heap.size < _; omega) (by show _ ≤ w.heap.size; omega) h)))))))
  refine bodyPost_ret (results_cell_row rfl _ _ (w.heap.size + 1) 53 _ (0, 0) _ rfl (box7_set ((Below.heap_setCell w3 _ _ _ (by show w.heap.size + 1 ≠ w.heap.size; omega)).trans R1.out) _ _ _ _ _ _ _) Tryz.underlying53 rfl (by kernel_rfl)) rfl ?_
  refine ⟨⟨_, _, _, rfl, w1.heap.size, w2.heap.size, by omega, by omega, ?_, ?_, ?_, ?_⟩, ?_⟩
  · exact hk (fun W => w2.heap.size ≤ W.heap.size) (fun W a u _ _ h => by rw [setCell_size]; exact h) hz3
  · have := hk (fun W => Own W (w.heap.size + 2) w1.heap.size _ e.list) (fun W a u h1 _ h => own_cell h a u h1) ol3
    exact ⟨owns_base this.1 (by omega), this.2⟩
  · exact hk (fun W => ScOwn W w1.heap.size w2.heap.size _ e.scores) (fun W a u h1 _ h => ownR_cell h a u (by omega)) os3
  · have := hk (fun W => PrOwn W w2.heap.size w3.heap.size _ e.fields) (fun W a u h1 _ h => ownR_cell h a u (by omega)) of3
    exact ⟨this.1, fun k hk' => Nat.lt_of_lt_of_le (this.2 k hk') (hk (fun W => w3.heap.size ≤ W.heap.size) (fun W a u _ _ h => by rw [setCell_size]; exact h) (Nat.le_refl _))⟩
  · exact hk (fun W => Below w.heap.size w W) (fun W a u _ h2 h => h.setCell h2 u) hB3
end Go.Proofs.YtooomgffcamijaaGreat
/- What stands under a key: the program's. -/
namespace Go.Proofs.YtooomgffcamijaaGreat
open Go.RowKit
set_option linter.unusedVariables false

theorem range7 {w : World} {B : Nat} {x0 x1 x2 x3 x4 x5 x6 : Value} {t : TypeId} {fr : Nat × Nat} (h : w.heap[B]? = some (.cells #[x0, x1, x2, x3, x4, x5, x6] t fr)) : w.rangeAt B 0 [x0, x1, x2, x3, x4, x5, x6] := by
  have hb := box7_row h
  intro j v hv
  rw [Nat.zero_add]
  match j, hv with
  | 0, hv => cases hv; exact hb.c0
  | 1, hv => cases hv; exact hb.c1
  | 2, hv => cases hv; exact hb.c2
  | 3, hv => cases hv; exact hb.c3
  | 4, hv => cases hv; exact hb.c4
  | 5, hv => cases hv; exact hb.c5
  | 6, hv => cases hv; exact hb.c6
  | j + 7, hv => simp at hv
/-- the row of a key; nothing, if there is none -/
def esFound (l : List Row) (s : ByteArray) : Row := if esIdx l s < l.length then esAt l (esIdx l s) else rowZ
def esHas (l : List Row) (s : ByteArray) : Bool := decide (esIdx l s < l.length)
abbrev rowV (x : Row) : Value := .agg #[.string x.e.key, .int .i64 x.e.til, .int .i64 x.e.kind, .string x.e.text, .slice x.al x.e.list.length x.cl, .slice x.as_ x.e.scores.length x.cs, .slice x.af x.e.fields.length x.cf]
end Go.Proofs.YtooomgffcamijaaGreat
/- The model's copy of an entry. -/
namespace Go.Proofs.YtooomgffcamijaaGreat
open Go.RowKit
set_option linter.unusedVariables false

set_option maxHeartbeats 8000000 in
set_option maxRecDepth 100000 in
theorem l4Entry_any (e : Ent) (vl vs vf : Value) (w : World) (hr : EnReads w vl vs vf e) (hs : EnSmall e) :
    Calls Tryz.prog 48 #[enV e vl vs vf] w fun x w' => (∃ ul us uf, x = .returned (enV e ul us uf) ∧ EnOwn w' w.heap.size w'.heap.size ul us uf e) ∧ Below w.heap.size w w' := by
  obtain ⟨i0, hi, hz0s, hz1s, hz2s⟩ := info_parts scInfo
  obtain ⟨j0, ji, jz0s, jz1s, jz2s⟩ := info_parts prInfo
  obtain ⟨al, cl, as_, cs, af, cf, rfl, rfl, rfl⟩ := enReads_shape hr
  have hls := hs.scores
  have hlf := hs.fields
  have hA : ∀ A B, Below w.heap.size w ((w.alloc A).alloc B) := fun A B => ((Below.refl _ w).alloc (Nat.le_refl _) A).alloc (by simp) B
  go_enter Tryz.func48, Tryz.ntmps48
  go_wp2_with fail
  obtain ⟨w0, hW⟩ : ∃ W, (w.alloc (.cells #[.string e.key, .int .i64 e.til, .int .i64 e.kind, .string e.text, .slice al e.list.length cl, .slice as_ e.scores.length cs, .slice af e.fields.length cf] 53)).alloc (.cells #[.string ⟨#[]⟩, .int .i64 0, .int .i64 0, .string ⟨#[]⟩, .slice none 0 0, .slice none 0 0, .slice none 0 0] 53) = W := ⟨_, rfl⟩
  have hB0 : Below w.heap.size w w0 := by rw [← hW]; exact hA _ _
  have hz0 : w0.heap.size = w.heap.size + 2 := by rw [← hW]; simp
  obtain ⟨q0, q1⟩ : w0.heap[w.heap.size]? = some _ ∧ w0.heap[w.heap.size + 1]? = some _ := by rw [← hW]; exact two_rows _ _ _
  rw [hW]
  have Q0 : Hid _ := q0
  have Q1 : Hid _ := q1
  clear hW hA q0 q1
  refine (copy_any _ e.list _ (reads_kept hr.l hB0) hs.list).mono ?_
  rintro x w1 ⟨ul, rfl, ol, hb1⟩
  have hB1 := hB0.trans (hb1.mono hB0.size)
  have ol1 : Own w1 (w.heap.size + 2) w1.heap.size ul e.list := by rw [← hz0]; exact own_of ol
  have hz1 := hb1.size
  rw [hz0] at hz1
  have q0 := (hb1.block w.heap.size (by omega)).trans Q0.out
  have q1 := (hb1.block (w.heap.size + 1) (by omega)).trans Q1.out
  obtain ⟨bl, dl, rfl⟩ := reads_shape (own_reads ol1)
  have R0 : Hid _ := q0
  have R1 : Hid _ := q1
  clear Q0 Q1 ol hb1 hB0 hz0
  have d4x : w1.cell? ⟨w.heap.size, 4, none⟩ = some _ := (box7_row q0).c4
  have f4x : ∀ o, w1.frozen? ⟨w.heap.size, o, none⟩ = false := fun o => by simp [World.frozen?, q0]
  clear q0 q1
  obtain ⟨w1s, hW⟩ : ∃ W, w1.setCell ⟨w.heap.size, 4, none⟩ (.slice bl e.list.length dl) = W := ⟨_, rfl⟩
  have hb1 : Below w.heap.size w1 w1s := by rw [← hW]; exact (Below.refl w.heap.size w1).setCell (p := ⟨w.heap.size, 4, none⟩) (Nat.le_refl _) _
  have hz1s : w1s.heap.size = w1.heap.size := by rw [← hW]; exact setCell_size _ _ _
  have q0 : w1s.heap[w.heap.size]? = some (.cells #[.string e.key, .int .i64 e.til, .int .i64 e.kind, .string e.text, .slice bl e.list.length dl, .slice as_ e.scores.length cs, .slice af e.fields.length cf] 53 (0, 0)) := by rw [← hW, heap_setCell_same _ w.heap.size 4 _ _ _ R0.out]; rfl
  have q1 := ((by rw [← hW]; exact Below.heap_setCell _ _ _ _ (by show w.heap.size + 1 ≠ w.heap.size; omega) : w1s.heap[w.heap.size + 1]? = w1.heap[w.heap.size + 1]?)).trans R1.out
  have ol1s := (by rw [← hW]; exact own_cell ol1 _ _ (by show w.heap.size < _; omega) : Own w1s _ _ _ e.list)
  have hB1s := hB1.trans hb1
  have c5x : w1s.cell? ⟨w.heap.size, 5, none⟩ = some _ := (box7_row q0).c5
  have S0 : Hid _ := q0
  have S1 : Hid _ := q1
  have hzz : w.heap.size ≤ w1s.heap.size := by rw [hz1s]; omega
  have HZ : Hid _ := hz1s
  have hE : Below w1s.heap.size w1s (w1s.alloc (.cells #[] 86)) := (Below.refl _ _).alloc (Nat.le_refl _) _
  have own0 : (w1s.alloc (.cells #[] 86)).ownsRow w1s.heap.size 86 2 (.slice (some ⟨w1s.heap.size, 0, none⟩) 0 0) 0 [] := World.ownsRow_lit w1s #[] 0 (Nat.le_refl _) (by simp) rfl
  have hrd := readsR_kept (readsR_kept hr.s hB1s) hE
  have c5y := (hE.cell (p := ⟨w.heap.size, 5, none⟩) (by show w.heap.size < _; rw [hz1s]; omega)).trans c5x
  clear hb1 q0 q1 R0 R1 hz1s hB1 ol1
  go_wp2_with (at_builtin; refine append_R (c := scC) rfl (.tmp 7) (.tmp 9) 50 rfl w1s.heap.size 86 i0 _ 2 24 Tryz.underlying50 hi hz0s hz1s hz2s rfl (by decide) _ _ _ rfl own0 _ rfl e.scores hrd scC_len scC_one (by unfold maxLen; omega) (by omega) (by simp) ?_)
  intro us w2 hown hgrow
  have hb2 : Below w1s.heap.size w1s w2 := hE.grown hgrow (by simp) (fun k hk => (own0.lt k hk).1)
  have os : ScOwns w2 w1s.heap.size us e.scores := by unfold ScOwns OwnsR; simpa using hown
  clear hown hgrow own0 hE hrd hW c5x c5y d4x f4x
  have hB2 := hB1s.trans (hb2.mono hB1s.size)
  have os2 : ScOwn w2 w1.heap.size w2.heap.size us e.scores := by rw [← HZ.out]; exact ownR_of os
  have ol2 := own_kept ol1s hb2
  have hz2 := hb2.size
  rw [HZ.out] at hz2
  have q0 := (hb2.block w.heap.size (by rw [HZ.out]; omega)).trans S0.out
  have q1 := (hb2.block (w.heap.size + 1) (by rw [HZ.out]; omega)).trans S1.out
  obtain ⟨b2, d2, rfl⟩ := readsR_shape (ownR_reads scC_len os2)
  have R0 : Hid _ := q0
  have R1 : Hid _ := q1
  clear hb2 hB1s S0 S1 hzz HZ os ol1s
  have d5x : w2.cell? ⟨w.heap.size, 5, none⟩ = some _ := (box7_row q0).c5
  have f5x : ∀ o, w2.frozen? ⟨w.heap.size, o, none⟩ = false := fun o => by simp [World.frozen?, q0]
  clear q0 q1
  obtain ⟨w2s, hW⟩ : ∃ W, w2.setCell ⟨w.heap.size, 5, none⟩ (.slice b2 e.scores.length d2) = W := ⟨_, rfl⟩
  have hb2 : Below w.heap.size w2 w2s := by rw [← hW]; exact (Below.refl w.heap.size w2).setCell (p := ⟨w.heap.size, 5, none⟩) (Nat.le_refl _) _
  have hz2s : w2s.heap.size = w2.heap.size := by rw [← hW]; exact setCell_size _ _ _
  have q0 : w2s.heap[w.heap.size]? = some (.cells #[.string e.key, .int .i64 e.til, .int .i64 e.kind, .string e.text, .slice bl e.list.length dl, .slice b2 e.scores.length d2, .slice af e.fields.length cf] 53 (0, 0)) := by rw [← hW, heap_setCell_same _ w.heap.size 5 _ _ _ R0.out]; rfl
  have q1 := ((by rw [← hW]; exact Below.heap_setCell _ _ _ _ (by show w.heap.size + 1 ≠ w.heap.size; omega) : w2s.heap[w.heap.size + 1]? = w2.heap[w.heap.size + 1]?)).trans R1.out
  have ol2s := (by rw [← hW]; exact own_cell ol2 _ _ (by show w.heap.size < _; omega) : Own w2s _ _ _ e.list)
  have os2s := (by rw [← hW]; exact ownR_cell os2 _ _ (by show w.heap.size < _; omega) : ScOwn w2s _ _ _ e.scores)
  have hB2s := hB2.trans hb2
  have c6x : w2s.cell? ⟨w.heap.size, 6, none⟩ = some _ := (box7_row q0).c6
  have S0 : Hid _ := q0
  have S1 : Hid _ := q1
  have hzz : w.heap.size ≤ w2s.heap.size := by rw [hz2s]; omega
  have HZ : Hid _ := hz2s
  have hE : Below w2s.heap.size w2s (w2s.alloc (.cells #[] 89)) := (Below.refl _ _).alloc (Nat.le_refl _) _
  have own0 : (w2s.alloc (.cells #[] 89)).ownsRow w2s.heap.size 89 2 (.slice (some ⟨w2s.heap.size, 0, none⟩) 0 0) 0 [] := World.ownsRow_lit w2s #[] 0 (Nat.le_refl _) (by simp) rfl
  have hrd := readsR_kept (readsR_kept hr.f hB2s) hE
  have c6y := (hE.cell (p := ⟨w.heap.size, 6, none⟩) (by show w.heap.size < _; rw [hz2s]; omega)).trans c6x
  clear hb2 q0 q1 R0 R1 hz2s hB2 ol2 os2
  go_wp2_with (at_builtin; refine append_R (c := prC) rfl (.tmp 12) (.tmp 14) 51 rfl w2s.heap.size 89 j0 _ 2 32 Tryz.underlying51 ji jz0s jz1s jz2s rfl (by decide) _ _ _ rfl own0 _ rfl e.fields hrd prC_len prC_one (by unfold maxLen; omega) (by omega) (by simp) ?_)
  intro uf w3 hown hgrow
  have hb3 : Below w2s.heap.size w2s w3 := hE.grown hgrow (by simp) (fun k hk => (own0.lt k hk).1)
  have of : PrOwns w3 w2s.heap.size uf e.fields := by unfold PrOwns OwnsR; simpa using hown
  clear hown hgrow own0 hE hrd hW c6x c6y d5x f5x
  have hB3 := hB2s.trans (hb3.mono hB2s.size)
  have of3 : PrOwn w3 w2.heap.size w3.heap.size uf e.fields := by rw [← HZ.out]; exact ownR_of of
  have ol3 := own_kept ol2s hb3
  have os3 := ownR_kept os2s hb3
  have hz3 := hb3.size
  rw [HZ.out] at hz3
  have q0 := (hb3.block w.heap.size (by rw [HZ.out]; omega)).trans S0.out
  have q1 := (hb3.block (w.heap.size + 1) (by rw [HZ.out]; omega)).trans S1.out
  obtain ⟨b3, d3, rfl⟩ := readsR_shape (ownR_reads prC_len of3)
  have R0 : Hid _ := q0
  have R1 : Hid _ := q1
  clear hb3 hB2s S0 S1 hzz HZ of ol2s os2s
  have d6x : w3.cell? ⟨w.heap.size, 6, none⟩ = some _ := (box7_row q0).c6
  have f6x : ∀ o, w3.frozen? ⟨w.heap.size, o, none⟩ = false := fun o => by simp [World.frozen?, q0]
  have c0x : w3.cell? ⟨w.heap.size, 0, none⟩ = some _ := (box7_row q0).c0
  have c1x : w3.cell? ⟨w.heap.size, 1, none⟩ = some _ := (box7_row q0).c1
  have c2x : w3.cell? ⟨w.heap.size, 2, none⟩ = some _ := (box7_row q0).c2
  have c3x : w3.cell? ⟨w.heap.size, 3, none⟩ = some _ := (box7_row q0).c3
  have c4x : w3.cell? ⟨w.heap.size, 4, none⟩ = some _ := (box7_row q0).c4
  have c5x : w3.cell? ⟨w.heap.size, 5, none⟩ = some _ := (box7_row q0).c5
  have e0x : w3.cell? ⟨w.heap.size + 1, 0, none⟩ = some _ := (box7_row q1).c0
  have e1x : w3.cell? ⟨w.heap.size + 1, 1, none⟩ = some _ := (box7_row q1).c1
  have e2x : w3.cell? ⟨w.heap.size + 1, 2, none⟩ = some _ := (box7_row q1).c2
  have e3x : w3.cell? ⟨w.heap.size + 1, 3, none⟩ = some _ := (box7_row q1).c3
  have e4x : w3.cell? ⟨w.heap.size + 1, 4, none⟩ = some _ := (box7_row q1).c4
  have e5x : w3.cell? ⟨w.heap.size + 1, 5, none⟩ = some _ := (box7_row q1).c5
  have e6x : w3.cell? ⟨w.heap.size + 1, 6, none⟩ = some _ := (box7_row q1).c6
  have g0x : ∀ o, w3.frozen? ⟨w.heap.size + 1, o, none⟩ = false := fun o => by simp [World.frozen?, q1]
  clear q0 q1 R0
  go_wp2_with fail
  have hk : ∀ (P : World → Prop), (∀ W a u, a.block < w.heap.size + 2 → w.heap.size ≤ a.block → P W → P (W.setCell a u)) → P w3 → P ((((((((w3.setCell ⟨w.heap.size, 6, none⟩ (.slice b3 e.fields.length d3)).setCell ⟨w.heap.size + 1, 0, none⟩ (.string e.key)).setCell ⟨w.heap.size + 1, 1, none⟩ (.int .i64 e.til)).setCell ⟨w.heap.size + 1, 2, none⟩ (.int .i64 e.kind)).setCell ⟨w.heap.size + 1, 3, none⟩ (.string e.text)).setCell ⟨w.heap.size + 1, 4, none⟩ (.slice bl e.list.length dl)).setCell ⟨w.heap.size + 1, 5, none⟩ (.slice b2 e.scores.length d2)).setCell ⟨w.heap.size + 1, 6, none⟩ (.slice b3 e.fields.length d3)) := by
    intro P hs h
    exact hs _ _ _ (by show w.heap.size + 1 < _; omega) (by show _ ≤ w.heap.size + 1; omega) (hs _ _ _ (by show w.heap.size + 1 < _; omega) (by show _ ≤ w.heap.size + 1; omega) (hs _ _ _ (by show w.heap.size + 1 < _; omega) (by show _ ≤ w.heap.size + 1; omega) (hs _ _ _ (by show w.heap.size + 1 < _; omega) (by show _ ≤ w.heap.size + 1; omega) (hs _ _ _ (by show w.heap.size + 1 < _; omega) (by show _ ≤ w.heap.size + 1; omega) (hs _ _ _ (by show w.heap.size + 1 < _; omega) (by show _ ≤ w.heap.size + 1; omega) (hs _ _ _ (by show w.heap.size + 1 < _; omega) (by show _ ≤ w.heap.size + 1; omega) (hs _ _ _ (by show w.heap.size < _; omega) (by show _ ≤ w.heap.size; omega) h)))))))
  refine bodyPost_ret (results_cell_row rfl _ _ (w.heap.size + 1) 53 _ (0, 0) _ rfl (box7_set ((Below.heap_setCell w3 _ _ _ (by show w.heap.size + 1 ≠ w.heap.size; omega)).trans R1.out) _ _ _ _ _ _ _) Tryz.underlying53 rfl (by kernel_rfl)) rfl ?_
  refine ⟨⟨_, _, _, rfl, w1.heap.size, w2.heap.size, by omega, by omega, ?_, ?_, ?_, ?_⟩, ?_⟩
  · exact hk (fun W => w2.heap.size ≤ W.heap.size) (fun W a u _ _ h => by rw [setCell_size]; exact h) hz3
  · have := hk (fun W => Own W (w.heap.size + 2) w1.heap.size _ e.list) (fun W a u h1 _ h => own_cell h a u h1) ol3
    exact ⟨owns_base this.1 (by omega), this.2⟩
  · exact hk (fun W => ScOwn W w1.heap.size w2.heap.size _ e.scores) (fun W a u h1 _ h => ownR_cell h a u (by omega)) os3
  · have := hk (fun W => PrOwn W w2.heap.size w3.heap.size _ e.fields) (fun W a u h1 _ h => ownR_cell h a u (by omega)) of3
    exact ⟨this.1, fun k hk' => Nat.lt_of_lt_of_le (this.2 k hk') (hk (fun W => w3.heap.size ≤ W.heap.size) (fun W a u _ _ h => by rw [setCell_size]; exact h) (Nat.le_refl _))⟩
  · exact hk (fun W => Below w.heap.size w W) (fun W a u _ h2 h => h.setCell h2 u) hB3
end Go.Proofs.YtooomgffcamijaaGreat
/- The model's place of a key in a base. -/
namespace Go.Proofs.YtooomgffcamijaaGreat
open Go.RowKit
set_option linter.unusedVariables false

set_option maxHeartbeats 8000000 in
set_option maxRecDepth 100000 in
theorem l4At_any (n : Int) (v : Value) (l : List Row) (s : ByteArray) (w : World) (hr : EsReads w v l) (hlen : l.length ≤ 1048576) :
    Calls Tryz.prog 13 #[bsV n v, .string s] w fun x w' => (∃ k : Nat, x = .returned (.tuple #[.int .i64 (k : Int), .bool (decide (k < l.length) && decide ((esAt l k).e.key = s))]) ∧ k ≤ l.length ∧ (∀ j, j < k → Op.bytesLess (esAt l j).e.key.toList s.toList = true) ∧ (k < l.length → Op.bytesLess (esAt l k).e.key.toList s.toList = false)) ∧ Below w.heap.size w w' := by
  obtain ⟨ao, cap, rfl⟩ := readsR_shape hr.rows
  have hB0 : Below w.heap.size w (w.alloc (.cells #[.int .i64 n, .slice ao l.length cap] 28)) := (Below.refl _ w).alloc (Nat.le_refl _) _
  have q0 : Hid _ := heap_alloc_new w (.cells #[.int .i64 n, .slice ao l.length cap] 28)
  go_enter Tryz.func13, Tryz.ntmps13
  go_wp2_with fail
  go_loopw [6] (fun i wr => ∃ k : Nat, k ≤ l.length ∧ i = .int .i64 k ∧ (∀ j, j < k → Op.bytesLess (esAt l j).e.key.toList s.toList = true) ∧ Hid (wr.heap[w.heap.size]? = some (.cells #[.int .i64 n, .slice ao l.length cap] 28 (0, 0))) ∧ Below w.heap.size w wr) (fun i _ => l.length - (intOf i).toNat)
  case atStart => exact ⟨0, Nat.zero_le _, rfl, fun j hj => by omega, q0, hB0⟩
  case round =>
    obtain ⟨k, hk, rfl, hto, hq, hB⟩ := hrel
    clear hB0 q0
    have HTO : Hid (∀ j, j < k → Op.bytesLess (esAt l j).e.key.toList s.toList = true) := hto
    clear hto
    have x1 : wr.cell? ⟨w.heap.size, 1, none⟩ = some (.slice ao l.length cap) := by rw [cell_of_row _ _ _ _ _ _ hq.out]; rfl
    by_cases hlt : k < l.length
    · obtain ⟨b, off, rfl, hb, hnc, hcm, hc⟩ := es_some hr.rows (by omega)
      obtain ⟨c0, _⟩ := es_cells hc hB hb hlt
      have hk1 : (k : Int) < (l.length : Int) := by omega
      clear hc hnc hcm
      cases hA : Op.bytesLess (esAt l k).e.key.toList s.toList with
      | true =>
        have HA : Hid _ := hA
        go_wp2_with fail
        go_roundw
        case rel => exact ⟨k + 1, hlt, by go_num, fun j hj => by
          by_cases e : j = k
          · rw [e]; exact HA.out
          · exact HTO.out j (by omega), hq, hB⟩
        case measure => simp [intOf]; omega
      | false =>
        have HA : Hid _ := hA
        have HC : Hid (decide (k < l.length) = true) := decide_eq_true hlt
        have HQ : Hid ((decide (k < l.length) && decide ((esAt l k).e.key = s)) = decide ((esAt l k).e.key = s)) := by show _ = _; rw [decide_eq_true hlt, Bool.true_and]
        go_wp2_with fail
        clear hA
        by_cases he : (esAt l k).e.key = s
        · have hs : ((esAt l k).e.key.toList == s.toList) = true := by rw [he]; simp
          have HE : Hid (decide ((esAt l k).e.key = s) = true) := decide_eq_true he
          clear he
          refine wp_region_held_drew (S := (fun w' => w'.cell? ⟨w.heap.size, 1, none⟩ = some (.slice (some ⟨b, off, none⟩) l.length cap) ∧ w'.cell? ⟨b, off + k * 7, none⟩ = some (.string (esAt l k).e.key))) (by kernel_rfl) (by exact ⟨x1, c0⟩) (fun hHeld => ?_)
          refine takeH (i := 0) (d := (some 24)) (v := ?_) rfl rfl (by kernel_rfl) (by kernel_rfl) (by kernel_rfl) (fun _ _ _ h => h) (by kernel_rfl) ?_ (by assumption) ?_
          rotate_left
          · (intro w hSw; (try dsimp only at hSw); go_simp; try with_reducible rfl)
          try simp only [Act.put, List.setIfInBounds_toArray, List.set_cons_succ, List.set_cons_zero]
          refine takeH (i := 1) (d := (some 25)) (v := ?_) rfl rfl (by kernel_rfl) (by kernel_rfl) (by kernel_rfl) (fun _ _ _ h => h) (by kernel_rfl) ?_ (by assumption) ?_
          rotate_left
          · (intro w hSw; (try dsimp only at hSw); go_simp; try with_reducible rfl)
          try simp only [Act.put, List.setIfInBounds_toArray, List.set_cons_succ, List.set_cons_zero]
          refine takeH (i := 2) (d := (some 26)) (v := ?_) rfl rfl (by kernel_rfl) (by kernel_rfl) (by kernel_rfl) (fun _ _ _ h => h) (by kernel_rfl) ?_ (by assumption) ?_
          rotate_left
          · (intro w hSw; (try dsimp only at hSw); go_simp; try with_reducible rfl)
          try simp only [Act.put, List.setIfInBounds_toArray, List.set_cons_succ, List.set_cons_zero]
          refine takeH (i := 3) (d := (some 27)) (v := ?_) rfl rfl (by kernel_rfl) (by kernel_rfl) (by kernel_rfl) (fun _ _ _ h => h) (by kernel_rfl) ?_ (by assumption) ?_
          rotate_left
          · (intro w hSw; (try dsimp only at hSw); go_simp; try with_reducible rfl)
          try simp only [Act.put, List.setIfInBounds_toArray, List.set_cons_succ, List.set_cons_zero]
          refine takeH (i := 4) (d := (some 28)) (v := ?_) rfl rfl (by kernel_rfl) (by kernel_rfl) (by kernel_rfl) (fun _ _ _ h => h) (by kernel_rfl) ?_ (by assumption) ?_
          rotate_left
          · (intro w hSw; (try dsimp only at hSw); go_simp; try with_reducible rfl)
          try simp only [Act.put, List.setIfInBounds_toArray, List.set_cons_succ, List.set_cons_zero]
          refine takeH (i := 5) (d := (some 29)) (v := ?_) rfl rfl (by kernel_rfl) (by kernel_rfl) (by kernel_rfl) (fun _ _ _ h => h) (by kernel_rfl) ?_ (by assumption) ?_
          rotate_left
          · (intro w hSw; (try dsimp only at hSw); go_simp; try with_reducible rfl)
          try simp only [Act.put, List.setIfInBounds_toArray, List.set_cons_succ, List.set_cons_zero]
          refine takeH (i := 6) (d := (some 30)) (v := ?_) rfl rfl (by kernel_rfl) (by kernel_rfl) (by kernel_rfl) (fun _ _ _ h => h) (by kernel_rfl) ?_ (by assumption) ?_
          rotate_left
          · (intro w hSw; (try dsimp only at hSw); go_simp; try with_reducible rfl)
          try simp only [Act.put, List.setIfInBounds_toArray, List.set_cons_succ, List.set_cons_zero]
          refine takeH (i := 7) (d := (some 31)) (v := ?_) rfl rfl (by kernel_rfl) (by kernel_rfl) (by kernel_rfl) (fun _ _ _ h => h) (by kernel_rfl) ?_ (by assumption) ?_
          rotate_left
          · (intro w hSw; (try dsimp only at hSw); go_simp; try with_reducible rfl)
          try simp only [Act.put, List.setIfInBounds_toArray, List.set_cons_succ, List.set_cons_zero]
          refine takeH (i := 8) (d := (some 32)) (v := ?_) rfl rfl (by kernel_rfl) (by kernel_rfl) (by kernel_rfl) (fun _ _ _ h => h) (by kernel_rfl) ?_ (by assumption) ?_
          rotate_left
          · (intro w hSw; (try dsimp only at hSw); go_simp; try with_reducible rfl)
          try simp only [Act.put, List.setIfInBounds_toArray, List.set_cons_succ, List.set_cons_zero]
          refine takeH (i := 9) (d := (some 33)) (v := ?_) rfl rfl (by kernel_rfl) (by kernel_rfl) (by kernel_rfl) (fun _ _ _ h => h) (by kernel_rfl) ?_ (by assumption) ?_
          rotate_left
          · (intro w hSw; (try dsimp only at hSw); go_simp; try with_reducible rfl)
          try simp only [Act.put, List.setIfInBounds_toArray, List.set_cons_succ, List.set_cons_zero]
          refine takeH (i := 10) (d := (some 34)) (v := ?_) rfl rfl (by kernel_rfl) (by kernel_rfl) (by kernel_rfl) (fun _ _ _ h => h) (by kernel_rfl) ?_ (by assumption) ?_
          rotate_left
          · (intro w hSw; (try dsimp only at hSw); go_simp; try with_reducible rfl)
          try simp only [Act.put, List.setIfInBounds_toArray, List.set_cons_succ, List.set_cons_zero]
          refine takeH (i := 11) (d := (some 35)) (v := ?_) rfl rfl (by kernel_rfl) (by kernel_rfl) (by kernel_rfl) (fun _ _ _ h => h) (by kernel_rfl) ?_ (by assumption) ?_
          rotate_left
          · (intro w hSw; (try dsimp only at hSw); go_simp; try with_reducible rfl)
          try simp only [Act.put, List.setIfInBounds_toArray, List.set_cons_succ, List.set_cons_zero]
          refine takeH (i := 12) (d := (some 36)) (v := ?_) rfl rfl (by kernel_rfl) (by kernel_rfl) (by kernel_rfl) (fun _ _ _ h => h) (by kernel_rfl) ?_ (by assumption) ?_
          rotate_left
          · (intro w hSw; (try dsimp only at hSw); go_simp; try with_reducible rfl)
          try simp only [Act.put, List.setIfInBounds_toArray, List.set_cons_succ, List.set_cons_zero]
          refine takeH (i := 13) (d := (some 37)) (v := ?_) rfl rfl (by kernel_rfl) (by kernel_rfl) (by kernel_rfl) (fun _ _ _ h => h) (by kernel_rfl) ?_ (by assumption) ?_
          rotate_left
          · (intro w hSw; (try dsimp only at hSw); go_simp; try with_reducible rfl)
          try simp only [Act.put, List.setIfInBounds_toArray, List.set_cons_succ, List.set_cons_zero]
          refine takeH (i := 14) (d := (some 38)) (v := ?_) rfl rfl (by kernel_rfl) (by kernel_rfl) (by kernel_rfl) (fun _ _ _ h => h) (by kernel_rfl) ?_ (by assumption) ?_
          rotate_left
          · (intro w hSw; (try dsimp only at hSw); go_simp; try with_reducible rfl)
          try simp only [Act.put, List.setIfInBounds_toArray, List.set_cons_succ, List.set_cons_zero]
          refine takeH (i := 15) (d := (some 39)) (v := ?_) rfl rfl (by kernel_rfl) (by kernel_rfl) (by kernel_rfl) (fun _ _ _ h => h) (by kernel_rfl) ?_ (by assumption) ?_
          rotate_left
          · (intro w hSw; (try dsimp only at hSw); go_simp; try with_reducible rfl)
          try simp only [Act.put, List.setIfInBounds_toArray, List.set_cons_succ, List.set_cons_zero]
          refine takeH (i := 16) (d := (some 4)) (v := ?_) rfl rfl (by kernel_rfl) (by kernel_rfl) (by kernel_rfl) (fun _ _ _ h => h) (by kernel_rfl) ?_ (by assumption) ?_
          rotate_left
          · (intro w hSw; (try dsimp only at hSw); go_simp; try with_reducible rfl)
          try simp only [Act.put, List.setIfInBounds_toArray, List.set_cons_succ, List.set_cons_zero]
          refine takeH (i := 17) (d := (some 5)) (v := ?_) rfl rfl (by kernel_rfl) (by kernel_rfl) (by kernel_rfl) (fun _ _ _ h => h) (by kernel_rfl) ?_ (by assumption) ?_
          rotate_left
          · (intro w hSw; (try dsimp only at hSw); go_simp; try with_reducible rfl)
          try simp only [Act.put, List.setIfInBounds_toArray, List.set_cons_succ, List.set_cons_zero]
          refine wpAnyH_done (by kernel_rfl) ?_ _
          clear hHeld hs
          go_wp2_with fail
          go_ret2
          exact ⟨⟨k, by rw [HQ.out, HE.out]; rfl, hk, HTO.out, fun _ => HA.out⟩, hB.drew⟩
        · have hs : ((esAt l k).e.key.toList == s.toList) = false := by
            cases hh : ((esAt l k).e.key.toList == s.toList) with
            | false => rfl
            | true => exact absurd (toList_eq (by simpa using hh)) he
          have HE : Hid (decide ((esAt l k).e.key = s) = false) := decide_eq_false he
          clear he
          refine wp_region_held_drew (S := (fun w' => w'.cell? ⟨w.heap.size, 1, none⟩ = some (.slice (some ⟨b, off, none⟩) l.length cap) ∧ w'.cell? ⟨b, off + k * 7, none⟩ = some (.string (esAt l k).e.key))) (by kernel_rfl) (by exact ⟨x1, c0⟩) (fun hHeld => ?_)
          refine takeH (i := 0) (d := (some 24)) (v := ?_) rfl rfl (by kernel_rfl) (by kernel_rfl) (by kernel_rfl) (fun _ _ _ h => h) (by kernel_rfl) ?_ (by assumption) ?_
          rotate_left
          · (intro w hSw; (try dsimp only at hSw); go_simp; try with_reducible rfl)
          try simp only [Act.put, List.setIfInBounds_toArray, List.set_cons_succ, List.set_cons_zero]
          refine takeH (i := 1) (d := (some 25)) (v := ?_) rfl rfl (by kernel_rfl) (by kernel_rfl) (by kernel_rfl) (fun _ _ _ h => h) (by kernel_rfl) ?_ (by assumption) ?_
          rotate_left
          · (intro w hSw; (try dsimp only at hSw); go_simp; try with_reducible rfl)
          try simp only [Act.put, List.setIfInBounds_toArray, List.set_cons_succ, List.set_cons_zero]
          refine takeH (i := 2) (d := (some 26)) (v := ?_) rfl rfl (by kernel_rfl) (by kernel_rfl) (by kernel_rfl) (fun _ _ _ h => h) (by kernel_rfl) ?_ (by assumption) ?_
          rotate_left
          · (intro w hSw; (try dsimp only at hSw); go_simp; try with_reducible rfl)
          try simp only [Act.put, List.setIfInBounds_toArray, List.set_cons_succ, List.set_cons_zero]
          refine takeH (i := 3) (d := (some 27)) (v := ?_) rfl rfl (by kernel_rfl) (by kernel_rfl) (by kernel_rfl) (fun _ _ _ h => h) (by kernel_rfl) ?_ (by assumption) ?_
          rotate_left
          · (intro w hSw; (try dsimp only at hSw); go_simp; try with_reducible rfl)
          try simp only [Act.put, List.setIfInBounds_toArray, List.set_cons_succ, List.set_cons_zero]
          refine takeH (i := 4) (d := (some 28)) (v := ?_) rfl rfl (by kernel_rfl) (by kernel_rfl) (by kernel_rfl) (fun _ _ _ h => h) (by kernel_rfl) ?_ (by assumption) ?_
          rotate_left
          · (intro w hSw; (try dsimp only at hSw); go_simp; try with_reducible rfl)
          try simp only [Act.put, List.setIfInBounds_toArray, List.set_cons_succ, List.set_cons_zero]
          refine takeH (i := 5) (d := (some 29)) (v := ?_) rfl rfl (by kernel_rfl) (by kernel_rfl) (by kernel_rfl) (fun _ _ _ h => h) (by kernel_rfl) ?_ (by assumption) ?_
          rotate_left
          · (intro w hSw; (try dsimp only at hSw); go_simp; try with_reducible rfl)
          try simp only [Act.put, List.setIfInBounds_toArray, List.set_cons_succ, List.set_cons_zero]
          refine takeH (i := 6) (d := (some 30)) (v := ?_) rfl rfl (by kernel_rfl) (by kernel_rfl) (by kernel_rfl) (fun _ _ _ h => h) (by kernel_rfl) ?_ (by assumption) ?_
          rotate_left
          · (intro w hSw; (try dsimp only at hSw); go_simp; try with_reducible rfl)
          try simp only [Act.put, List.setIfInBounds_toArray, List.set_cons_succ, List.set_cons_zero]
          refine takeH (i := 7) (d := (some 31)) (v := ?_) rfl rfl (by kernel_rfl) (by kernel_rfl) (by kernel_rfl) (fun _ _ _ h => h) (by kernel_rfl) ?_ (by assumption) ?_
          rotate_left
          · (intro w hSw; (try dsimp only at hSw); go_simp; try with_reducible rfl)
          try simp only [Act.put, List.setIfInBounds_toArray, List.set_cons_succ, List.set_cons_zero]
          refine takeH (i := 8) (d := (some 32)) (v := ?_) rfl rfl (by kernel_rfl) (by kernel_rfl) (by kernel_rfl) (fun _ _ _ h => h) (by kernel_rfl) ?_ (by assumption) ?_
          rotate_left
          · (intro w hSw; (try dsimp only at hSw); go_simp; try with_reducible rfl)
          try simp only [Act.put, List.setIfInBounds_toArray, List.set_cons_succ, List.set_cons_zero]
          refine takeH (i := 9) (d := (some 33)) (v := ?_) rfl rfl (by kernel_rfl) (by kernel_rfl) (by kernel_rfl) (fun _ _ _ h => h) (by kernel_rfl) ?_ (by assumption) ?_
          rotate_left
          · (intro w hSw; (try dsimp only at hSw); go_simp; try with_reducible rfl)
          try simp only [Act.put, List.setIfInBounds_toArray, List.set_cons_succ, List.set_cons_zero]
          refine takeH (i := 10) (d := (some 34)) (v := ?_) rfl rfl (by kernel_rfl) (by kernel_rfl) (by kernel_rfl) (fun _ _ _ h => h) (by kernel_rfl) ?_ (by assumption) ?_
          rotate_left
          · (intro w hSw; (try dsimp only at hSw); go_simp; try with_reducible rfl)
          try simp only [Act.put, List.setIfInBounds_toArray, List.set_cons_succ, List.set_cons_zero]
          refine takeH (i := 11) (d := (some 35)) (v := ?_) rfl rfl (by kernel_rfl) (by kernel_rfl) (by kernel_rfl) (fun _ _ _ h => h) (by kernel_rfl) ?_ (by assumption) ?_
          rotate_left
          · (intro w hSw; (try dsimp only at hSw); go_simp; try with_reducible rfl)
          try simp only [Act.put, List.setIfInBounds_toArray, List.set_cons_succ, List.set_cons_zero]
          refine takeH (i := 12) (d := (some 36)) (v := ?_) rfl rfl (by kernel_rfl) (by kernel_rfl) (by kernel_rfl) (fun _ _ _ h => h) (by kernel_rfl) ?_ (by assumption) ?_
          rotate_left
          · (intro w hSw; (try dsimp only at hSw); go_simp; try with_reducible rfl)
          try simp only [Act.put, List.setIfInBounds_toArray, List.set_cons_succ, List.set_cons_zero]
          refine takeH (i := 13) (d := (some 37)) (v := ?_) rfl rfl (by kernel_rfl) (by kernel_rfl) (by kernel_rfl) (fun _ _ _ h => h) (by kernel_rfl) ?_ (by assumption) ?_
          rotate_left
          · (intro w hSw; (try dsimp only at hSw); go_simp; try with_reducible rfl)
          try simp only [Act.put, List.setIfInBounds_toArray, List.set_cons_succ, List.set_cons_zero]
          refine takeH (i := 14) (d := (some 38)) (v := ?_) rfl rfl (by kernel_rfl) (by kernel_rfl) (by kernel_rfl) (fun _ _ _ h => h) (by kernel_rfl) ?_ (by assumption) ?_
          rotate_left
          · (intro w hSw; (try dsimp only at hSw); go_simp; try with_reducible rfl)
          try simp only [Act.put, List.setIfInBounds_toArray, List.set_cons_succ, List.set_cons_zero]
          refine takeH (i := 15) (d := (some 39)) (v := ?_) rfl rfl (by kernel_rfl) (by kernel_rfl) (by kernel_rfl) (fun _ _ _ h => h) (by kernel_rfl) ?_ (by assumption) ?_
          rotate_left
          · (intro w hSw; (try dsimp only at hSw); go_simp; try with_reducible rfl)
          try simp only [Act.put, List.setIfInBounds_toArray, List.set_cons_succ, List.set_cons_zero]
          refine takeH (i := 16) (d := (some 4)) (v := ?_) rfl rfl (by kernel_rfl) (by kernel_rfl) (by kernel_rfl) (fun _ _ _ h => h) (by kernel_rfl) ?_ (by assumption) ?_
          rotate_left
          · (intro w hSw; (try dsimp only at hSw); go_simp; try with_reducible rfl)
          try simp only [Act.put, List.setIfInBounds_toArray, List.set_cons_succ, List.set_cons_zero]
          refine takeH (i := 17) (d := (some 5)) (v := ?_) rfl rfl (by kernel_rfl) (by kernel_rfl) (by kernel_rfl) (fun _ _ _ h => h) (by kernel_rfl) ?_ (by assumption) ?_
          rotate_left
          · (intro w hSw; (try dsimp only at hSw); go_simp; try with_reducible rfl)
          try simp only [Act.put, List.setIfInBounds_toArray, List.set_cons_succ, List.set_cons_zero]
          refine wpAnyH_done (by kernel_rfl) ?_ _
          clear hHeld hs
          go_wp2_with fail
          go_ret2
          exact ⟨⟨k, by rw [HQ.out, HE.out]; rfl, hk, HTO.out, fun _ => HA.out⟩, hB.drew⟩
    · obtain rfl : k = l.length := by omega
      have HQ : Hid ((decide (l.length < l.length) && decide ((esAt l l.length).e.key = s)) = false) := by show _ = _; simp
      go_wp2_with fail
      refine wp_region_held_drew (S := (fun w' => w'.cell? ⟨w.heap.size, 1, none⟩ = some (.slice ao l.length cap))) (by kernel_rfl) (by exact x1) (fun hHeld => ?_)
      refine takeH (i := 0) (d := (some 24)) (v := ?_) rfl rfl (by kernel_rfl) (by kernel_rfl) (by kernel_rfl) (fun _ _ _ h => h) (by kernel_rfl) ?_ (by assumption) ?_
      rotate_left
      · (intro w hSw; (try dsimp only at hSw); go_simp; try with_reducible rfl)
      try simp only [Act.put, List.setIfInBounds_toArray, List.set_cons_succ, List.set_cons_zero]
      refine takeH (i := 1) (d := (some 25)) (v := ?_) rfl rfl (by kernel_rfl) (by kernel_rfl) (by kernel_rfl) (fun _ _ _ h => h) (by kernel_rfl) ?_ (by assumption) ?_
      rotate_left
      · (intro w hSw; (try dsimp only at hSw); go_simp; try with_reducible rfl)
      try simp only [Act.put, List.setIfInBounds_toArray, List.set_cons_succ, List.set_cons_zero]
      refine takeH (i := 2) (d := (some 26)) (v := ?_) rfl rfl (by kernel_rfl) (by kernel_rfl) (by kernel_rfl) (fun _ _ _ h => h) (by kernel_rfl) ?_ (by assumption) ?_
      rotate_left
      · (intro w hSw; (try dsimp only at hSw); go_simp; try with_reducible rfl)
      try simp only [Act.put, List.setIfInBounds_toArray, List.set_cons_succ, List.set_cons_zero]
      refine takeH (i := 3) (d := (some 27)) (v := ?_) rfl rfl (by kernel_rfl) (by kernel_rfl) (by kernel_rfl) (fun _ _ _ h => h) (by kernel_rfl) ?_ (by assumption) ?_
      rotate_left
      · (intro w hSw; (try dsimp only at hSw); go_simp; try with_reducible rfl)
      try simp only [Act.put, List.setIfInBounds_toArray, List.set_cons_succ, List.set_cons_zero]
      refine takeH (i := 4) (d := (some 28)) (v := ?_) rfl rfl (by kernel_rfl) (by kernel_rfl) (by kernel_rfl) (fun _ _ _ h => h) (by kernel_rfl) ?_ (by assumption) ?_
      rotate_left
      · (intro w hSw; (try dsimp only at hSw); go_simp; try with_reducible rfl)
      try simp only [Act.put, List.setIfInBounds_toArray, List.set_cons_succ, List.set_cons_zero]
      refine takeH (i := 5) (d := (some 29)) (v := ?_) rfl rfl (by kernel_rfl) (by kernel_rfl) (by kernel_rfl) (fun _ _ _ h => h) (by kernel_rfl) ?_ (by assumption) ?_
      rotate_left
      · (intro w hSw; (try dsimp only at hSw); go_simp; try with_reducible rfl)
      try simp only [Act.put, List.setIfInBounds_toArray, List.set_cons_succ, List.set_cons_zero]
      refine takeH (i := 6) (d := (some 30)) (v := ?_) rfl rfl (by kernel_rfl) (by kernel_rfl) (by kernel_rfl) (fun _ _ _ h => h) (by kernel_rfl) ?_ (by assumption) ?_
      rotate_left
      · (intro w hSw; (try dsimp only at hSw); go_simp; try with_reducible rfl)
      try simp only [Act.put, List.setIfInBounds_toArray, List.set_cons_succ, List.set_cons_zero]
      refine skipH (i := 7) (d := (some 31)) rfl rfl (by kernel_rfl) (by kernel_rfl) (by kernel_rfl) (fun _ _ _ h => h) (by kernel_rfl) (by assumption) ?_
      try simp only [Act.put, List.setIfInBounds_toArray, List.set_cons_succ, List.set_cons_zero]
      refine skipH (i := 8) (d := (some 32)) rfl rfl (by kernel_rfl) (by kernel_rfl) (by kernel_rfl) (fun _ _ _ h => h) (by kernel_rfl) (by assumption) ?_
      try simp only [Act.put, List.setIfInBounds_toArray, List.set_cons_succ, List.set_cons_zero]
      refine skipH (i := 9) (d := (some 33)) rfl rfl (by kernel_rfl) (by kernel_rfl) (by kernel_rfl) (fun _ _ _ h => h) (by kernel_rfl) (by assumption) ?_
      try simp only [Act.put, List.setIfInBounds_toArray, List.set_cons_succ, List.set_cons_zero]
      refine skipH (i := 10) (d := (some 34)) rfl rfl (by kernel_rfl) (by kernel_rfl) (by kernel_rfl) (fun _ _ _ h => h) (by kernel_rfl) (by assumption) ?_
      try simp only [Act.put, List.setIfInBounds_toArray, List.set_cons_succ, List.set_cons_zero]
      refine skipH (i := 11) (d := (some 35)) rfl rfl (by kernel_rfl) (by kernel_rfl) (by kernel_rfl) (fun _ _ _ h => h) (by kernel_rfl) (by assumption) ?_
      try simp only [Act.put, List.setIfInBounds_toArray, List.set_cons_succ, List.set_cons_zero]
      refine skipH (i := 12) (d := (some 36)) rfl rfl (by kernel_rfl) (by kernel_rfl) (by kernel_rfl) (fun _ _ _ h => h) (by kernel_rfl) (by assumption) ?_
      try simp only [Act.put, List.setIfInBounds_toArray, List.set_cons_succ, List.set_cons_zero]
      refine skipH (i := 13) (d := (some 37)) rfl rfl (by kernel_rfl) (by kernel_rfl) (by kernel_rfl) (fun _ _ _ h => h) (by kernel_rfl) (by assumption) ?_
      try simp only [Act.put, List.setIfInBounds_toArray, List.set_cons_succ, List.set_cons_zero]
      refine skipH (i := 14) (d := (some 38)) rfl rfl (by kernel_rfl) (by kernel_rfl) (by kernel_rfl) (fun _ _ _ h => h) (by kernel_rfl) (by assumption) ?_
      try simp only [Act.put, List.setIfInBounds_toArray, List.set_cons_succ, List.set_cons_zero]
      refine takeH (i := 15) (d := (some 39)) (v := ?_) rfl rfl (by kernel_rfl) (by kernel_rfl) (by kernel_rfl) (fun _ _ _ h => h) (by kernel_rfl) ?_ (by assumption) ?_
      rotate_left
      · (intro w hSw; (try dsimp only at hSw); go_simp; try with_reducible rfl)
      try simp only [Act.put, List.setIfInBounds_toArray, List.set_cons_succ, List.set_cons_zero]
      refine takeH (i := 16) (d := (some 4)) (v := ?_) rfl rfl (by kernel_rfl) (by kernel_rfl) (by kernel_rfl) (fun _ _ _ h => h) (by kernel_rfl) ?_ (by assumption) ?_
      rotate_left
      · (intro w hSw; (try dsimp only at hSw); go_simp; try with_reducible rfl)
      try simp only [Act.put, List.setIfInBounds_toArray, List.set_cons_succ, List.set_cons_zero]
      refine takeH (i := 17) (d := (some 5)) (v := ?_) rfl rfl (by kernel_rfl) (by kernel_rfl) (by kernel_rfl) (fun _ _ _ h => h) (by kernel_rfl) ?_ (by assumption) ?_
      rotate_left
      · (intro w hSw; (try dsimp only at hSw); go_simp; try with_reducible rfl)
      try simp only [Act.put, List.setIfInBounds_toArray, List.set_cons_succ, List.set_cons_zero]
      refine wpAnyH_done (by kernel_rfl) ?_ _
      clear hHeld
      go_wp2_with fail
      go_ret2
      exact ⟨⟨l.length, by rw [HQ.out]; rfl, Nat.le_refl _, HTO.out, fun h => absurd h (Nat.lt_irrefl _)⟩, hB.drew⟩
end Go.Proofs.YtooomgffcamijaaGreat
/- What stands under a key of a base that is ok: the program's BaseGet. -/
namespace Go.Proofs.YtooomgffcamijaaGreat
open Go.RowKit
set_option linter.unusedVariables false

def getE (n : Int) (l : List Row) (s : ByteArray) : Ent := if bsOkB n (l.map Row.e) = true then (esFound l s).e else enZ
def getB (n : Int) (l : List Row) (s : ByteArray) : Bool := bsOkB n (l.map Row.e) && esHas l s
theorem enOwn_nil (w : World) (lo hi : Nat) (h : lo ≤ hi) : EnOwn w lo hi (.slice none 0 0) (.slice none 0 0) (.slice none 0 0) enZ :=
  ⟨lo, lo, Nat.le_refl _, Nat.le_refl _, h, ⟨World.ownsRow_nil _ _ _ _, fun k hk => by cases hk⟩, ⟨World.ownsRow_nil _ _ _ _, fun k hk => by cases hk⟩, ⟨World.ownsRow_nil _ _ _ _, fun k hk => by cases hk⟩⟩
theorem nilReads (w : World) : EnReads w (.slice none 0 0) (.slice none 0 0) (.slice none 0 0) enZ :=
  ⟨.inl ⟨rfl, none, 0, rfl, fun _ => rfl⟩, .inl ⟨rfl, none, 0, rfl, fun _ => rfl⟩, .inl ⟨rfl, none, 0, rfl, fun _ => rfl⟩⟩
theorem found_in {w : World} {v : Value} {l : List Row} (hr : EsReads w v l) (s : ByteArray) : RowIn w (esFound l s) := by
  unfold esFound; split
  · next h => exact hr.ins _ (esAt_mem h)
  · exact nilReads w
theorem found_small {l : List Row} (hs : EsSmall l) (s : ByteArray) : EnSmall (esFound l s).e := by
  unfold esFound; split
  · next h => exact hs.each _ (esAt_mem h)
  · exact ⟨by show 0 ≤ _; omega, by show 0 ≤ _; omega, by show 0 ≤ _; omega, by show 0 ≤ _; omega, by show 0 ≤ _; omega⟩
theorem enOwn_base {w : World} {lo lo' hi hi' : Nat} {vl vs vf : Value} {e : Ent} (h : EnOwn w lo hi vl vs vf e) (hl : lo' ≤ lo) (hh : hi ≤ hi') : EnOwn w lo' hi' vl vs vf e := by
  obtain ⟨a, b, h1, h2, h3, h4, h5, h6⟩ := h
  exact ⟨a, b, by omega, h2, by omega, ⟨owns_base h4.1 hl, h4.2⟩, h5, ⟨h6.1, fun k hk => Nat.lt_of_lt_of_le (h6.2 k hk) hh⟩⟩
end Go.Proofs.YtooomgffcamijaaGreat
/- In a base that is ok the model's place of a key is the program's. -/
namespace Go.Proofs.YtooomgffcamijaaGreat
open Go.RowKit
set_option linter.unusedVariables false

theorem keyLt_irr {a b : ByteArray} (h : Op.bytesLess a.toList b.toList = true) : a ≠ b := by
  rintro rfl
  rw [bytesLess_eq] at h
  exact absurd (by simpa using h) (List.lt_irrefl _)
theorem keyLt_trans {a b c : ByteArray} (h1 : Op.bytesLess a.toList b.toList = true) (h2 : Op.bytesLess b.toList c.toList = true) : Op.bytesLess a.toList c.toList = true := by
  rw [bytesLess_eq] at *
  simp only [decide_eq_true_eq] at *
  exact List.lt_trans h1 h2
/-- the keys of a base that is ok go up -/
theorem bsOk_up {n : Int} {l : List Row} (h : bsOkB n (l.map Row.e) = true) {k : Nat} (hk : k + 1 < l.length) :
    Op.bytesLess (esAt l k).e.key.toList (esAt l (k + 1)).e.key.toList = true := by
  unfold bsOkB at h
  simp only [Bool.and_eq_true] at h
  have h1 := List.all_eq_true.1 h.1.1 (k + 1) (List.mem_range.2 (by rw [List.length_map]; exact hk))
  unfold bsRowOk at h1
  simp only [Bool.and_eq_true, Bool.or_eq_true, decide_eq_true_eq] at h1
  have h2 := h1.2.resolve_left (by omega)
  rw [Nat.add_sub_cancel, enAt_map l k (by omega), enAt_map l (k + 1) hk] at h2
  exact h2
theorem bsOk_lt {n : Int} {l : List Row} (h : bsOkB n (l.map Row.e) = true) (i d : Nat) (hk : i + d + 1 < l.length) :
    Op.bytesLess (esAt l i).e.key.toList (esAt l (i + d + 1)).e.key.toList = true := by
  induction d with
  | zero => exact bsOk_up h hk
  | succ d ih => exact keyLt_trans (ih (by omega)) (bsOk_up h (by omega))
/-- the place that the model finds is the key's, if the key is there -/
theorem at_idx {n : Int} {l : List Row} {s : ByteArray} (h : bsOkB n (l.map Row.e) = true) {k : Nat} (hk : k ≤ l.length)
    (hlt : ∀ j, j < k → Op.bytesLess (esAt l j).e.key.toList s.toList = true) (hge : k < l.length → Op.bytesLess (esAt l k).e.key.toList s.toList = false) :
    (decide (k < l.length) && decide ((esAt l k).e.key = s)) = esHas l s ∧ (esHas l s = true → k = esIdx l s) := by
  have hno : esNo l s k := fun j hj => keyLt_irr (hlt j hj)
  by_cases hkl : k < l.length
  · by_cases he : (esAt l k).e.key = s
    · have hx := (esPlc_hit hkl hno he).1
      refine ⟨?_, fun _ => hx.symm⟩
      unfold esHas
      rw [hx, decide_eq_true hkl, decide_eq_true he]; rfl
    · have hall : esNo l s l.length := by
        intro j hj e
        by_cases hjk : j < k
        · exact hno j hjk e
        · by_cases hjk2 : j = k
          · exact he (hjk2 ▸ e)
          · have h2 := bsOk_lt h k (j - k - 1) (by omega)
            rw [show k + (j - k - 1) + 1 = j by omega, e, hge hkl] at h2
            cases h2
      have hn : ¬ esIdx l s < l.length := by
        intro hh
        have := esPlc_none hall
        unfold esPlc at this
        rw [if_pos hh] at this; omega
      have hf : esHas l s = false := by unfold esHas; exact decide_eq_false hn
      rw [hf, decide_eq_false he, Bool.and_false]
      exact ⟨rfl, fun e => by cases e⟩
  · have hkk : k = l.length := by omega
    subst hkk
    have hn : ¬ esIdx l s < l.length := by
      intro hh
      have := esPlc_none hno
      unfold esPlc at this
      rw [if_pos hh] at this; omega
    have hf : esHas l s = false := by unfold esHas; exact decide_eq_false hn
    rw [hf, decide_eq_false hkl, Bool.false_and]
    exact ⟨rfl, fun e => by cases e⟩
end Go.Proofs.YtooomgffcamijaaGreat
