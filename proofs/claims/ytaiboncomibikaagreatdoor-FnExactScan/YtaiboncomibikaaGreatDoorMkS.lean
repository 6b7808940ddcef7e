/- How much is left of a purse behind entries, and what it paid. -/
import Derived.Test.YtaiboncomibikaaGreatDoorMkR
namespace Go.Proofs.YtaiboncomibikaaGreatDoor
open Go.RowKit
set_option linter.unusedVariables false

def entW (e : Ent) : Int := (e.list.length : Int) + (e.scores.length : Int) + (e.fields.length : Int)
def rowsW : List Row → Int
  | [] => 0
  | x :: l => entW x.e + rowsW l
theorem rowsW_step {l : List Row} {j : Nat} (h : j < l.length) : rowsW (l.drop j) = entW (esAt l j).e + rowsW (l.drop (j + 1)) := by
  rw [drop_es h]; rfl
theorem rowsM_le : ∀ l : List Row, rowsM l ≤ 4 * (l.length : Int) + 4 * rowsW l
  | [] => by unfold rowsM rowsW; simp
  | x :: l => by
    have h := rowsM_le l
    unfold rowsM rowsW rowM entW
    rw [List.length_cons]
    omega
theorem sz_pay {l : List ByteArray} {left : Int} (h : 0 ≤ sz l left) : sz l left + (l.length : Int) ≤ left := by
  have h0 : sz l left = szTo l left l.length := by
    unfold sz at h ⊢; split at h
    · omega
    · rename_i hn; exact if_neg hn
  have h1 := szTo_mono (l := l) (left := left) (Nat.zero_le l.length)
  have h2 : szTo l left 0 = left - l.length := by simp [szTo]
  omega
theorem szW_pay {α : Type} {wt : α → Int} (hw : ∀ x, 0 ≤ wt x) {l : List α} {left : Int} (h : 0 ≤ szW wt l left) : szW wt l left + (l.length : Int) ≤ left := by
  have h0 : szW wt l left = szWTo wt l left l.length := by
    unfold szW at h ⊢; split at h
    · omega
    · rename_i hn; exact if_neg hn
  have h1 := szWTo_mono hw (l := l) (left := left) (Nat.zero_le l.length)
  have h2 : szWTo wt l left 0 = left - l.length := by simp [szWTo]
  omega
set_option maxHeartbeats 4000000 in
theorem szEntryP_any (e : Ent) (vl vs vf : Value) (left : Int) (w : World) (hr : EnReads w vl vs vf e) (hf : EnFit e) (hl : 0 ≤ left) (hl2 : left ≤ 1048576) :
    Calls Tryz.prog 22 #[enV e vl vs vf, .int .i64 left] w fun x w' => (∃ n : Int, x = .returned (.int .i64 n) ∧ (n < 0 ∨ 0 ≤ n ∧ n ≤ left ∧ EnSmall e ∧ n + entW e ≤ left)) ∧ Below w.heap.size w w' := by
  obtain ⟨al, cl, as_, cs, af, cf, rfl, rfl, rfl⟩ := enReads_shape hr
  have hk := hf.key
  have ht := hf.text
  unfold maxLen at hk ht
  have hB0 : Below w.heap.size w (w.alloc (.cells #[.string e.key, .int .i64 e.til, .int .i64 e.kind, .string e.text, .slice al e.list.length cl, .slice as_ e.scores.length cs, .slice af e.fields.length cf] 53)) := (Below.refl _ w).alloc (Nat.le_refl _) _
  have hrow := heap_alloc_new w (.cells #[.string e.key, .int .i64 e.til, .int .i64 e.kind, .string e.text, .slice al e.list.length cl, .slice as_ e.scores.length cs, .slice af e.fields.length cf] 53)
  have HROW : Hid _ := hrow
  clear hrow
  rcases Int.lt_or_le (left - (e.key.size : Int)) 0 with h1 | h1
  · go_enter Tryz.func22, Tryz.ntmps22
    go_wp2_with fail
    go_ret
    exact ⟨⟨_, rfl, .inl (by omega)⟩, hB0⟩
  rcases Int.lt_or_le (left - (e.key.size : Int) - (e.text.size : Int)) 0 with h2 | h2
  · go_enter Tryz.func22, Tryz.ntmps22
    go_wp2_with fail
    go_ret
    exact ⟨⟨_, rfl, .inl (by omega)⟩, hB0⟩
  obtain ⟨L1, hL1⟩ : ∃ x, left - (e.key.size : Int) - (e.text.size : Int) = x := ⟨_, rfl⟩
  have hL : L1 ≤ left := by omega
  go_enter Tryz.func22, Tryz.ntmps22
  go_wp2_with fail
  refine (sz_any _ e.list _ _ (reads_kept hr.l hB0) (by omega) (by omega) hf.list hf.listn).mono ?_
  rintro x w' ⟨rfl, rfl⟩
  rw [hL1] at *
  rcases Int.lt_or_le (sz e.list L1) 0 with h3 | h3
  · go_wp2_with fail
    go_ret
    exact ⟨⟨_, rfl, .inl (by omega)⟩, hB0⟩
  have hq := sz_len h3
  have hn1 := hq.1
  have hn2 := hq.2.1
  clear hq
  go_wp2_with fail
  refine (szScoreS_any _ e.scores _ _ (readsR_kept hr.s hB0) (by omega) (by omega) hf.scores hf.scoresn).mono ?_
  rintro x w1 ⟨rfl, hb1⟩
  have hB1 := hB0.trans (hb1.mono hB0.size)
  have hx := box7_row ((hb1.block w.heap.size (by simp)).trans HROW.out)
  have hx6 := hx.c6
  clear hx hb1
  rcases Int.lt_or_le (szW scW e.scores (sz e.list L1)) 0 with h4 | h4
  · go_wp2_with fail
    go_ret
    exact ⟨⟨_, rfl, .inl (by omega)⟩, hB1⟩
  have hq := szW_len scW_pos h4
  have hn3 := hq.1
  have hn4 := hq.2.1
  clear hq
  go_wp2_with fail
  refine (szPairS_any _ e.fields _ _ (readsR_kept hr.f hB1) (by omega) (by omega) hf.fields hf.fieldsn).mono ?_
  rintro x w2 ⟨rfl, hb2⟩
  have hB2 := hB1.trans (hb2.mono hB1.size)
  clear hb2
  rcases Int.lt_or_le (szW prW e.fields (szW scW e.scores (sz e.list L1))) 0 with h5 | h5
  · go_wp2_with fail
    go_ret
    exact ⟨⟨_, rfl, .inl (by omega)⟩, hB2⟩
  have hq := szW_len prW_pos h5
  have hn5 := hq.1
  have hn6 := hq.2.1
  clear hq
  go_wp2_with fail
  go_ret
  have p1 := sz_pay h3
  have p2 := szW_pay scW_pos h4
  have p3 := szW_pay prW_pos h5
  exact ⟨⟨_, rfl, .inr ⟨h5, by omega, ⟨by omega, by omega, by omega, by omega, by omega⟩, by unfold entW; omega⟩⟩, hB2⟩
set_option maxHeartbeats 4000000 in
theorem szEntrySP_any (v : Value) (l : List Row) (left : Int) (w : World) (hr : EsReads w v l) (hf : ∀ x ∈ l, EnFit x.e) (hlen : l.length ≤ maxLen) (hl : 0 ≤ left) (hl2 : left ≤ 1048576) :
    Calls Tryz.prog 13 #[v, .int .i64 left] w fun x w' => (∃ n : Int, x = .returned (.int .i64 n) ∧ (n < 0 ∨ 0 ≤ n ∧ n ≤ left ∧ EsSmall l ∧ n + (l.length : Int) + rowsW l ≤ left)) ∧ Below w.heap.size w w' := by
  obtain ⟨ao, cap, rfl⟩ := readsR_shape hr.rows
  unfold maxLen at hlen
  rcases Int.lt_or_le (left - (l.length : Int)) 0 with h1 | h1
  · go_enter Tryz.func13, Tryz.ntmps13
    go_wp2_with fail
    go_ret
    exact ⟨⟨_, rfl, .inl (by omega)⟩, Below.refl _ _⟩
  · have HLEN : Hid (l.length ≤ 1048576) := by show _ ≤ _; omega
    go_enter Tryz.func13, Tryz.ntmps13
    go_wp2_with fail
    go_loopw [1, 5] (fun c i wr => ∃ (k : Nat) (n : Int), k ≤ l.length ∧ i = .int .i64 k ∧ c = .int .i64 n ∧ 0 ≤ n ∧ n ≤ left ∧ n + (l.length : Int) + (rowsW l - rowsW (l.drop k)) ≤ left ∧ (∀ j, j < k → EnSmall (esAt l j).e) ∧ Below w.heap.size w wr) (fun _ i _ => l.length - (intOf i).toNat)
    case atStart => exact ⟨0, _, Nat.zero_le _, rfl, rfl, h1, by omega, by rw [List.drop_zero]; omega, fun j hj => by omega, Below.refl _ _⟩
    case round =>
      obtain ⟨k, n, hk, rfl, rfl, hn0, hn1, hpay, hsm, hB⟩ := hrel
      have HSM : Hid (∀ j, j < k → EnSmall (esAt l j).e) := hsm
      clear hsm
      by_cases hlt : k < l.length
      · obtain ⟨b, off, rfl, hb, hnc, hcm, hc⟩ := es_some hr.rows (by omega)
        obtain ⟨c0, c1, c2, c3, c4, c5, c6⟩ := es_cells hc hB hb hlt
        have hk1 : (k : Int) < (l.length : Int) := by omega
        have hin := rowIn_kept (hr.ins _ (esAt_mem hlt)) hB
        have hff := hf _ (esAt_mem hlt)
        clear hc hnc hcm
        go_wp2_with fail
        refine (szEntryP_any (esAt l k).e _ _ _ n _ hin hff hn0 (by omega)).mono ?_
        rintro x w3 ⟨⟨m, rfl, hm⟩, hb3⟩
        have hB3 := hB.trans (hb3.mono hB.size)
        clear hb3 hB c0 c1 c2 c3 c4 c5 c6 hin hff
        rcases hm with hm | ⟨hm0, hm1, hms, hmp⟩
        · go_wp2_with fail
          go_ret
          exact ⟨⟨_, rfl, .inl (by omega)⟩, hB3⟩
        · have HMS : Hid _ := hms
          clear hms
          go_wp2_with fail
          go_roundw
          case rel => exact ⟨k + 1, m, hlt, by go_num, rfl, hm0, by omega, by rw [rowsW_step hlt] at hpay; omega, fun j hj => by
            by_cases e : j = k
            · rw [e]; exact HMS.out
            · exact HSM.out j (by omega), hB3⟩
          case measure => simp [intOf]; omega
      · obtain rfl : k = l.length := by omega
        go_wp2_with fail
        go_ret
        refine ⟨⟨n, rfl, .inr ⟨hn0, hn1, ⟨HLEN.out, fun x hx => ?_⟩, by rw [List.drop_length] at hpay; unfold rowsW at hpay ⊢; simpa using hpay⟩⟩, hB⟩
        obtain ⟨j, hj, rfl⟩ := List.getElem_of_mem hx
        have := HSM.out j hj
        rwa [esAt_get hj] at this

/-! ### copies: a row's lists each in stretches of their own, one row behind the other -/
set_option maxHeartbeats 4000000 in
theorem szBaseP_any (n : Int) (v : Value) (l : List Row) (left : Int) (w : World) (hr : EsReads w v l) (hf : ∀ x ∈ l, EnFit x.e) (hlen : l.length ≤ maxLen) (hl : 0 ≤ left) (hl2 : left ≤ 1048576) :
    Calls Tryz.prog 4 #[bsV n v, .int .i64 left] w fun x w' => (∃ m : Int, x = .returned (.int .i64 m) ∧ (m < 0 ∨ 0 ≤ m ∧ m ≤ left ∧ EsSmall l ∧ m + (l.length : Int) + rowsW l ≤ left)) ∧ Below w.heap.size w w' := by
  obtain ⟨ao, cap, rfl⟩ := readsR_shape hr.rows
  have hA : ∀ A, Below w.heap.size w (w.alloc A) := fun A => (Below.refl _ w).alloc (Nat.le_refl _) A
  go_enter Tryz.func4, Tryz.ntmps4
  go_wp2_with fail
  refine (szEntrySP_any _ l left _ (esReads_kept hr (hA _)) hf hlen hl hl2).mono ?_
  rintro x w1 ⟨⟨m, rfl, hm⟩, hb1⟩
  have hB1 := (hA _).trans (hb1.mono (by simp))
  clear hb1
  rcases hm with hm | ⟨hm0, hm1, hms⟩
  · go_wp2_with fail
    go_ret
    exact ⟨⟨_, rfl, .inl (by omega)⟩, hB1⟩
  · have HM : Hid _ := hms
    clear hms
    go_wp2_with fail
    go_ret
    exact ⟨⟨_, rfl, .inr ⟨hm0, hm1, HM.out⟩⟩, hB1⟩
end Go.Proofs.YtaiboncomibikaaGreatDoor
