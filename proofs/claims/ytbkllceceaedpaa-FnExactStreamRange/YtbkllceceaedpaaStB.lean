/- Copies of what is waited for; rows that are the same. -/
import Derived.Test.YtbkllceceaedpaaStA
namespace Go.Proofs.Ytbkllceceaedpaa
open Go.RowKit
set_option linter.unusedVariables false

set_option maxHeartbeats 4000000 in
theorem toWait_any (x : Wt) (w : World) :
    Calls Try.prog 105 #[wtV x] w fun e w' => e = .returned (wtV x) ∧ Below w.heap.size w w' := by
  obtain ⟨w0, hW⟩ : ∃ W, ((w.alloc (.cells #[.int .i64 x.t, .int .i64 x.n, .string x.who, .int .i64 x.at_, .int .i64 x.times] 145)).alloc (.cells #[.int .i64 0, .int .i64 0, .string ⟨#[]⟩, .int .i64 0, .int .i64 0] 92)).alloc (.cells #[.int .i64 0, .int .i64 0, .string ⟨#[]⟩, .int .i64 0, .int .i64 0] 92) = W := ⟨_, rfl⟩
  have hB0 : Below w.heap.size w w0 := by rw [← hW]; exact (((Below.refl _ w).alloc (Nat.le_refl _) _).alloc (by simp) _).alloc (by simp; omega) _
  have hz0 : w.heap.size + 3 ≤ w0.heap.size := by rw [← hW]; simp
  obtain ⟨q0, q1, q2⟩ : w0.heap[w.heap.size]? = some _ ∧ w0.heap[w.heap.size + 1]? = some _ ∧ w0.heap[w.heap.size + 2]? = some _ := by rw [← hW]; exact rows3 _ _ _ _
  have Q0 : Hid _ := q0
  have Q1 : Hid _ := q1
  have Q2 : Hid _ := q2
  have b0 : w0.cell? ⟨w.heap.size, 0, none⟩ = some (.int .i64 x.t) := cellAt_row q0 0
  have b1 : w0.cell? ⟨w.heap.size, 1, none⟩ = some (.int .i64 x.n) := cellAt_row q0 1
  clear q0 q1 q2
  go_enter Try.func105, Try.ntmps105
  go_wp2_with fail
  clear hW b0 b1
  refine (toId_ab x.t x.n _).mono ?_
  rintro e w1 ⟨rfl, hb1⟩
  have hB1 := hB0.trans (hb1.mono hB0.size)
  have q0 := (hb1.block w.heap.size (by omega)).trans Q0.out
  have q1 := (hb1.block (w.heap.size + 1) (by omega)).trans Q1.out
  have q2 := (hb1.block (w.heap.size + 2) (by omega)).trans Q2.out
  have c2 : w1.cell? ⟨w.heap.size, 2, none⟩ = some _ := cellAt_row q0 2
  have c3 : w1.cell? ⟨w.heap.size, 3, none⟩ = some _ := cellAt_row q0 3
  have c4 : w1.cell? ⟨w.heap.size, 4, none⟩ = some _ := cellAt_row q0 4
  have d0 : w1.cell? ⟨w.heap.size + 2, 0, none⟩ = some _ := cellAt_row q2 0
  have d1 : w1.cell? ⟨w.heap.size + 2, 1, none⟩ = some _ := cellAt_row q2 1
  have d2 : w1.cell? ⟨w.heap.size + 2, 2, none⟩ = some _ := cellAt_row q2 2
  have d3 : w1.cell? ⟨w.heap.size + 2, 3, none⟩ = some _ := cellAt_row q2 3
  have d4 : w1.cell? ⟨w.heap.size + 2, 4, none⟩ = some _ := cellAt_row q2 4
  have e0 : w1.cell? ⟨w.heap.size + 1, 0, none⟩ = some _ := cellAt_row q1 0
  have e1 : w1.cell? ⟨w.heap.size + 1, 1, none⟩ = some _ := cellAt_row q1 1
  have e2 : w1.cell? ⟨w.heap.size + 1, 2, none⟩ = some _ := cellAt_row q1 2
  have e3 : w1.cell? ⟨w.heap.size + 1, 3, none⟩ = some _ := cellAt_row q1 3
  have e4 : w1.cell? ⟨w.heap.size + 1, 4, none⟩ = some _ := cellAt_row q1 4
  have f1 : ∀ o, w1.frozen? ⟨w.heap.size + 1, o, none⟩ = false := frozenAt_row q1
  have f2 : ∀ o, w1.frozen? ⟨w.heap.size + 2, o, none⟩ = false := frozenAt_row q2
  have P1 : Hid _ := q1
  clear Q0 Q1 Q2 q0 q1 q2 hb1 hB0
  go_wp2_with fail
  have hb2 := put5_below (B := w.heap.size + 1 + 1) (Below.refl (w.heap.size + 1 + 1) w1) (Nat.le_refl _) (.int .i64 x.t) (.int .i64 x.n) (.string x.who) (.int .i64 x.at_) (.int .i64 x.times)
  refine bodyPost_ret (results_cell_row rfl _ _ (w.heap.size + 1) 92 _ (0, 0) _ rfl (put5_row ((hb2.block (w.heap.size + 1) (by omega)).trans P1.out) _ _ _ _ _) Try.underlying92 rfl (by kernel_rfl)) rfl ?_
  exact ⟨rfl, put5_below (hB1.trans (hb2.mono (by omega))) (Nat.le_succ _) _ _ _ _ _⟩
theorem wtInfo : (Try.prog.info? 92).map (fun i => (i.zero, i.size, i.bytes)) = some (some (.agg #[.int .i64 0, .int .i64 0, .string ByteArray.empty, .int .i64 0, .int .i64 0]), 5, 48) := by kernel_rfl
set_option maxHeartbeats 4000000 in
theorem toWaitS_any (v : Value) (l : List Wt) (w : World) (hr : WtReads w v l) (hlen : l.length ≤ 1048576) :
    Calls Try.prog 90 #[v] w fun e w' => ∃ v', e = .returned v' ∧ WtOwns w' w.heap.size v' l ∧ Below w.heap.size w w' := by
  obtain ⟨i0, hi, hz0, hz1, hz2⟩ := info_parts wtInfo
  have hbt : i0.bytes * l.length ≤ 281474976710656 := by rw [hz2]; omega
  have hml : l.length ≤ maxLen := by unfold maxLen; omega
  obtain ⟨ao, cap, rfl⟩ := readsR_shape hr
  go_enter Try.func90, Try.ntmps90
  go_wp2_with (at_make; refine wpList_make_full _ rfl _ _ 50 rfl w.heap.size 92 i0 _ 5 Try.underlying50 hi hz0 hz1 _ _ _ _ l.length rfl rfl rfl rfl hbt hml (Nat.le_refl _) ?_)
  intro w1 hown hgrow
  have hB1 : Below w.heap.size w w1 := (Below.refl _ _).grown hgrow (Nat.le_refl _) (fun k hk => by cases hk)
  have hown1 : WtOwns w1 w.heap.size (.slice (some ⟨w.heap.size, 0, none⟩) l.length l.length) (partOf wtZ l.length (l.take 0)) := by
    unfold WtOwns OwnsR; rw [List.take_zero, partOf_none, List.length_replicate, ← made_rows wtC_len wtZ l.length]; exact hown
  clear hown hgrow hbt hml hi hz0 hz1 hz2
  go_wp2_with fail
  go_loopw [4] (fun i wr => ∃ k : Nat, k ≤ l.length ∧ i = .int .i64 k ∧ Hid (WtOwns wr w.heap.size (.slice (some ⟨w.heap.size, 0, none⟩) l.length l.length) (partOf wtZ l.length (l.take k))) ∧ Below w.heap.size w wr) (fun i _ => l.length - (intOf i).toNat)
  case atStart => exact ⟨0, Nat.zero_le _, rfl, hown1, hB1⟩
  case round =>
    obtain ⟨k, hk, rfl, HO, hB⟩ := hrel
    clear hown1 hB1
    by_cases hlt : k < l.length
    · obtain ⟨b, off, rfl, hb, hnc, hcm, hc⟩ := wt_some hr (by omega)
      obtain ⟨c0, c1, c2, c3, c4⟩ := wt_cells hc hB hb hlt
      have hk' : (k : Int) < (l.length : Int) := by omega
      have htk : (l.take k).length = k := by rw [List.length_take]; omega
      have HL : Hid ((partOf wtZ l.length (l.take k)).length = l.length) := partOf_len (by rw [htk]; exact hk)
      have HTK : Hid (l.take (k + 1) = l.take k ++ [wtAt l k]) := by show _ = _; rw [List.take_succ_eq_append_getElem hlt, wtAt_get hlt]
      have HAT : Hid ((partOf wtZ l.length (l.take k))[k]? = some wtZ) := by
        have := partOf_at (z := wtZ) (n := l.length) (ys := l.take k) (by rw [htk]; exact hlt)
        rw [htk] at this; exact this
      have HST : Hid ((partOf wtZ l.length (l.take k)).set k (wtAt l k) = partOf wtZ l.length (l.take (k + 1))) := by
        have := partOf_set (z := wtZ) (n := l.length) (ys := l.take k) (x := wtAt l k) (by rw [htk]; exact hlt)
        show _ = _
        rw [HTK.out, ← this, htk]
      clear hc hnc hcm htk
      go_wp2_with fail
      refine (toWait_any (wtAt l k) _).mono ?_
      rintro e w3 ⟨rfl, hb3⟩
      have hB3 : Below w.heap.size w w3 := hB.trans (hb3.mono hB.size)
      have ho3 : WtOwns w3 w.heap.size (.slice (some ⟨w.heap.size, 0, none⟩) (partOf wtZ l.length (l.take k)).length l.length) (partOf wtZ l.length (l.take k)) := by rw [HL.out]; exact ownsR_kept HO.out hb3
      have hst := rows_stored wtC_len ho3 k wtZ (wtAt l k) HAT.out
      rw [HST.out, HL.out] at hst
      have f0 := World.ownsRow.frozenAt ho3 (k * 5)
      have f1 := World.ownsRow.frozenAt ho3 (k * 5 + 1)
      have f2 := World.ownsRow.frozenAt ho3 (k * 5 + 2)
      have f3 := World.ownsRow.frozenAt ho3 (k * 5 + 3)
      have f4 := World.ownsRow.frozenAt ho3 (k * 5 + 4)
      have d0 : w3.cell? ⟨w.heap.size, k * 5, none⟩ = some (.int .i64 0) := cellR wtC_len ho3 HAT.out 0 _ rfl
      have d1 : w3.cell? ⟨w.heap.size, k * 5 + 1, none⟩ = some (.int .i64 0) := cellR wtC_len ho3 HAT.out 1 _ rfl
      have d2 : w3.cell? ⟨w.heap.size, k * 5 + 2, none⟩ = some (.string ByteArray.empty) := cellR wtC_len ho3 HAT.out 2 _ rfl
      have d3 : w3.cell? ⟨w.heap.size, k * 5 + 3, none⟩ = some (.int .i64 0) := cellR wtC_len ho3 HAT.out 3 _ rfl
      have d4 : w3.cell? ⟨w.heap.size, k * 5 + 4, none⟩ = some (.int .i64 0) := cellR wtC_len ho3 HAT.out 4 _ rfl
      have HO3 : Hid _ := hst
      have HB3 : Hid (Below w.heap.size w (putCells w3 w.heap.size (k * 5) (wtC (wtAt l k)))) := below_puts (Nat.le_refl _) _ _ hB3
      clear hb3 hB HO ho3 hst c0 c1 c2 c3 c4 hB3
      go_wp2_with fail
      go_roundw
      case rel => exact ⟨k + 1, hlt, by go_num, HO3.out, HB3.out⟩
      case measure => simp [intOf]; omega
    · obtain rfl : k = l.length := by omega
      have HE : Hid (WtOwns wr w.heap.size (.slice (some ⟨w.heap.size, 0, none⟩) l.length l.length) l) := by
        have := HO.out; rw [List.take_length, partOf_all rfl] at this; exact this
      go_wp2_with fail
      go_ret
      exact ⟨_, rfl, HE.out, hB⟩
set_option maxHeartbeats 2000000 in
theorem eqWait_true (x : Wt) (w : World) :
    Calls Try.prog 62 #[wtV x, wtV x] w fun e w' => e = .returned (.bool true) ∧ Below w.heap.size w w' := by
  obtain ⟨w0, hW⟩ : ∃ W, (w.alloc (.cells #[.int .i64 x.t, .int .i64 x.n, .string x.who, .int .i64 x.at_, .int .i64 x.times] 92)).alloc (.cells #[.int .i64 x.t, .int .i64 x.n, .string x.who, .int .i64 x.at_, .int .i64 x.times] 92) = W := ⟨_, rfl⟩
  have hB0 : Below w.heap.size w w0 := by rw [← hW]; exact ((Below.refl _ w).alloc (Nat.le_refl _) _).alloc (by simp) _
  have hz0 : w.heap.size + 2 ≤ w0.heap.size := by rw [← hW]; simp
  have q0 : w0.heap[w.heap.size]? = some (.cells #[.int .i64 x.t, .int .i64 x.n, .string x.who, .int .i64 x.at_, .int .i64 x.times] 92 (0, 0)) := by rw [← hW, Below.heap_alloc _ _ _ (by simp)]; exact heap_alloc_new w _
  have q1 : w0.heap[w.heap.size + 1]? = some (.cells #[.int .i64 x.t, .int .i64 x.n, .string x.who, .int .i64 x.at_, .int .i64 x.times] 92 (0, 0)) := by
    rw [← hW]
    have := heap_alloc_new (w.alloc (.cells #[.int .i64 x.t, .int .i64 x.n, .string x.who, .int .i64 x.at_, .int .i64 x.times] 92)) (.cells #[.int .i64 x.t, .int .i64 x.n, .string x.who, .int .i64 x.at_, .int .i64 x.times] 92)
    rw [World.size_alloc] at this; exact this
  have Q0 : Hid _ := q0
  have Q1 : Hid _ := q1
  have hs : (x.who.toList == x.who.toList) = true := by simp
  have h1 : (x.at_ == x.at_) = true := by simp
  have h2 : (x.times == x.times) = true := by simp
  have b0 : w0.cell? ⟨w.heap.size, 0, none⟩ = some (.int .i64 x.t) := cellAt_row q0 0
  have b1 : w0.cell? ⟨w.heap.size, 1, none⟩ = some (.int .i64 x.n) := cellAt_row q0 1
  have b2 : w0.cell? ⟨w.heap.size + 1, 0, none⟩ = some (.int .i64 x.t) := cellAt_row q1 0
  have b3 : w0.cell? ⟨w.heap.size + 1, 1, none⟩ = some (.int .i64 x.n) := cellAt_row q1 1
  clear q0 q1
  go_enter Try.func62, Try.ntmps62
  go_wp2_with fail
  clear hW b0 b1 b2 b3
  refine (eqId_ab x.t x.n _).mono ?_
  rintro e w1 ⟨rfl, hb1⟩
  have hB1 := hB0.trans (hb1.mono hB0.size)
  have q0 := (hb1.block w.heap.size (by omega)).trans Q0.out
  have q1 := (hb1.block (w.heap.size + 1) (by omega)).trans Q1.out
  have c2 : w1.cell? ⟨w.heap.size, 2, none⟩ = some _ := cellAt_row q0 2
  have c3 : w1.cell? ⟨w.heap.size, 3, none⟩ = some _ := cellAt_row q0 3
  have c4 : w1.cell? ⟨w.heap.size, 4, none⟩ = some _ := cellAt_row q0 4
  have d2 : w1.cell? ⟨w.heap.size + 1, 2, none⟩ = some _ := cellAt_row q1 2
  have d3 : w1.cell? ⟨w.heap.size + 1, 3, none⟩ = some _ := cellAt_row q1 3
  have d4 : w1.cell? ⟨w.heap.size + 1, 4, none⟩ = some _ := cellAt_row q1 4
  clear Q0 Q1 q0 q1 hb1 hB0
  go_wp2_with fail
  go_ret
  exact ⟨rfl, hB1⟩
theorem heldW {wr w2 w3 : World} {a b c d e f g h i j : Prop} (h3 : Below w2.heap.size w2 w3) (hh : a ∧ b ∧ c ∧ d ∧ e ∧ f ∧ g ∧ h ∧ i ∧ j ∧ Below wr.heap.size wr w2) : Below wr.heap.size wr w3 := hh.2.2.2.2.2.2.2.2.2.2.trans (h3.mono hh.2.2.2.2.2.2.2.2.2.2.size)
set_option maxHeartbeats 4000000 in
theorem eqWaitS_true (v u : Value) (l : List Wt) (w : World) (hr : WtReads w v l) (hq : WtReads w u l) (hlen : l.length ≤ 1048576) :
    Calls Try.prog 27 #[v, u] w fun x w' => x = .returned (.bool true) ∧ Below w.heap.size w w' := by
  obtain ⟨ao, cap, rfl⟩ := readsR_shape hr
  obtain ⟨ao2, cap2, rfl⟩ := readsR_shape hq
  have hf : ((l.length : Int) != (l.length : Int)) = false := by simp
  go_enter Try.func27, Try.ntmps27
  go_wp2_with fail
  go_loopw [5] (fun i wr => ∃ k : Nat, k ≤ l.length ∧ i = .int .i64 k ∧ Below w.heap.size w wr) (fun i _ => l.length - (intOf i).toNat)
  case atStart => exact ⟨0, Nat.zero_le _, rfl, Below.refl _ _⟩
  case round =>
    obtain ⟨k, hk, rfl, hB⟩ := hrel
    by_cases hlt : k < l.length
    · obtain ⟨b, off, rfl, hb, _, _, hc⟩ := wt_some hr (by omega)
      obtain ⟨b2, off2, rfl, hb2, _, _, hc2⟩ := wt_some hq (by omega)
      have hk1 : (k : Int) < (l.length : Int) := by omega
      have hsz := hB.size
      have HK : Hid (∀ w', Below wr.heap.size wr w' → w'.cell? ⟨b, off + k * 5, none⟩ = some (.int .i64 (wtAt l k).t) ∧ w'.cell? ⟨b, off + k * 5 + 1, none⟩ = some (.int .i64 (wtAt l k).n) ∧ w'.cell? ⟨b, off + k * 5 + 2, none⟩ = some (.string (wtAt l k).who) ∧ w'.cell? ⟨b, off + k * 5 + 3, none⟩ = some (.int .i64 (wtAt l k).at_) ∧ w'.cell? ⟨b, off + k * 5 + 4, none⟩ = some (.int .i64 (wtAt l k).times) ∧ w'.cell? ⟨b2, off2 + k * 5, none⟩ = some (.int .i64 (wtAt l k).t) ∧ w'.cell? ⟨b2, off2 + k * 5 + 1, none⟩ = some (.int .i64 (wtAt l k).n) ∧ w'.cell? ⟨b2, off2 + k * 5 + 2, none⟩ = some (.string (wtAt l k).who) ∧ w'.cell? ⟨b2, off2 + k * 5 + 3, none⟩ = some (.int .i64 (wtAt l k).at_) ∧ w'.cell? ⟨b2, off2 + k * 5 + 4, none⟩ = some (.int .i64 (wtAt l k).times) ∧ Below wr.heap.size wr w') := fun w' h => by
        obtain ⟨x0, x1, x2, x3, x4⟩ := wt_cells hc (hB.trans (h.mono hsz)) hb hlt
        obtain ⟨y0, y1, y2, y3, y4⟩ := wt_cells hc2 (hB.trans (h.mono hsz)) hb2 hlt
        exact ⟨x0, x1, x2, x3, x4, y0, y1, y2, y3, y4, h⟩
      clear hc hc2
      go_wp2_with fail
      go_region_held3 (fun w' => w'.cell? ⟨b, off + k * 5, none⟩ = some (.int .i64 (wtAt l k).t) ∧ w'.cell? ⟨b, off + k * 5 + 1, none⟩ = some (.int .i64 (wtAt l k).n) ∧ w'.cell? ⟨b, off + k * 5 + 2, none⟩ = some (.string (wtAt l k).who) ∧ w'.cell? ⟨b, off + k * 5 + 3, none⟩ = some (.int .i64 (wtAt l k).at_) ∧ w'.cell? ⟨b, off + k * 5 + 4, none⟩ = some (.int .i64 (wtAt l k).times) ∧ w'.cell? ⟨b2, off2 + k * 5, none⟩ = some (.int .i64 (wtAt l k).t) ∧ w'.cell? ⟨b2, off2 + k * 5 + 1, none⟩ = some (.int .i64 (wtAt l k).n) ∧ w'.cell? ⟨b2, off2 + k * 5 + 2, none⟩ = some (.string (wtAt l k).who) ∧ w'.cell? ⟨b2, off2 + k * 5 + 3, none⟩ = some (.int .i64 (wtAt l k).at_) ∧ w'.cell? ⟨b2, off2 + k * 5 + 4, none⟩ = some (.int .i64 (wtAt l k).times) ∧ Below wr.heap.size wr w') (first | exact HK.out _ (Below.refl _ _).drew | assumption | go_keep) (first
          | (go_at_call 62; refine (eqWait_true (wtAt l k) _).mono ?_; rintro e w3 ⟨rfl, hb3⟩; have hk3 := HK.out _ (heldW hb3 ‹_›)))
      have hB3 : Below w.heap.size w w3 := hB.trans (hk3.2.2.2.2.2.2.2.2.2.2.mono hB.size)
      clear hk3 hb3 hB HK
      go_wp2_with fail
      go_roundw
      case rel => exact ⟨k + 1, hlt, by go_num, hB3⟩
      case measure => simp [intOf]; omega
    · obtain rfl : k = l.length := by omega
      go_wp2_with fail
      go_ret
      exact ⟨rfl, hB⟩
end Go.Proofs.Ytbkllceceaedpaa
