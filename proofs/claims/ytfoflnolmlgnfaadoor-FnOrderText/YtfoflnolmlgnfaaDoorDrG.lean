/- Bytes of orders are drawn: whatever comes is short. -/
import Derived.Test.YtfoflnolmlgnfaaDoorDrO
import Derived.Test.YtfoflnolmlgnfaaDoorPutM
import Derived.Test.YtfoflnolmlgnfaaDoorTk
namespace Go.Proofs.YtfoflnolmlgnfaaDoor
open Go.RowKit

theorem put_size (l : List ByteArray) : (ofL (putL l)).size ≤ 1000 := by
  cases h : ordB l with
  | false => rw [put_no h]; decide
  | true =>
    have := part_size h l.length
    rw [put_yes h]
    rw [part_all' (Nat.le_refl _) (by omega)] at this
    exact this
theorem ext_le (s : ByteArray) (a b : Nat) : (s.extract a b).size ≤ s.size := by simp; omega
set_option maxHeartbeats 2000000 in
theorem cut_any (r p : Nat) (v : Value) (zs : List Int) (s : ByteArray) (w : World) (h : RdAt w r v zs p) (hp : p ≤ 80000) (hs : s.size ≤ 5000) :
    Calls Tryd.prog 34 #[.pointer (some ⟨r, 0, none⟩), .string s] w fun e w' => ∃ t, e = .returned (.string t) ∧ t.size ≤ 10100 ∧ w.grownBy w' (some r) := by
  have hrl := rd_lt h
  go_enter Tryd.func34, Tryd.ntmps34
  go_wp2_with fail
  refine (pick_any r p v zs _ _ h (by omega) (by omega) (by omega)).mono ?_
  rintro e w1 ⟨x, rfl, hx0, hx1, hR1, hG1⟩
  obtain ⟨k, rfl⟩ := Int.eq_ofNat_of_zero_le hx0
  have hk : k ≤ s.size := by omega
  have hki : (k : Int) ≤ (s.size : Int) := by omega
  have hx1' := ext_le s 0 k
  have hx2' := ext_le s k s.size
  clear hx1
  go_wp2_with fail
  refine (pick_any r (p + 1) v zs _ w1 hR1 (by omega) (by omega) (by omega)).mono ?_
  rintro e w2 ⟨y, rfl, hy0, hy1, hR2, hg2⟩
  have hG2 := grown_trans2 hG1 hg2
  clear hG1 hg2 hR1 h
  have hy : y = 0 ∨ y = 1 ∨ ((y == 0) = false ∧ (y == 1) = false) := by
    by_cases h1 : y = 0
    · exact .inl h1
    · by_cases h2 : y = 1
      · exact .inr (.inl h2)
      · exact .inr (.inr ⟨beq_eq_false_iff_ne.2 h1, beq_eq_false_iff_ne.2 h2⟩)
  clear hy0 hy1
  rcases hy with rfl | rfl | ⟨h1, h2⟩
  · go_wp2_with fail
    refine wp_region_held_drew (S := (fun _ => True)) (by kernel_rfl) (by trivial) (fun hHeld => ?_)
    refine takeH (i := 0) (d := (some 15)) (v := ?_) rfl rfl (by kernel_rfl) (by kernel_rfl) (by kernel_rfl) (fun _ _ _ h => h) (by kernel_rfl) ?_ (by assumption) ?_
    rotate_left
    · (intro w hSw; (try dsimp only at hSw); go_simp; try with_reducible rfl)
    try simp only [Act.put, List.setIfInBounds_toArray, List.set_cons_succ, List.set_cons_zero]
    refine takeH (i := 1) (d := (some 16)) (v := ?_) rfl rfl (by kernel_rfl) (by kernel_rfl) (by kernel_rfl) (fun _ _ _ h => h) (by kernel_rfl) ?_ (by assumption) ?_
    rotate_left
    · (intro w hSw; (try dsimp only at hSw); go_simp; try with_reducible rfl)
    try simp only [Act.put, List.setIfInBounds_toArray, List.set_cons_succ, List.set_cons_zero]
    refine takeH (i := 2) (d := (some 17)) (v := ?_) rfl rfl (by kernel_rfl) (by kernel_rfl) (by kernel_rfl) (fun _ _ _ h => h) (by kernel_rfl) ?_ (by assumption) ?_
    rotate_left
    · (intro w hSw; (try dsimp only at hSw); go_simp; try with_reducible rfl)
    try simp only [Act.put, List.setIfInBounds_toArray, List.set_cons_succ, List.set_cons_zero]
    refine takeH (i := 3) (d := (some 18)) (v := ?_) rfl rfl (by kernel_rfl) (by kernel_rfl) (by kernel_rfl) (fun _ _ _ h => h) (by kernel_rfl) ?_ (by assumption) ?_
    rotate_left
    · (intro w hSw; (try dsimp only at hSw); go_simp; try with_reducible rfl)
    try simp only [Act.put, List.setIfInBounds_toArray, List.set_cons_succ, List.set_cons_zero]
    refine takeH (i := 7) (d := (some 22)) (v := ?_) rfl rfl (by kernel_rfl) (by kernel_rfl) (by kernel_rfl) (fun _ _ _ h => h) (by kernel_rfl) ?_ (by assumption) ?_
    rotate_left
    · (intro w hSw; (try dsimp only at hSw); go_simp; try with_reducible rfl)
    try simp only [Act.put, List.setIfInBounds_toArray, List.set_cons_succ, List.set_cons_zero]
    refine takeH (i := 8) (d := (some 23)) (v := ?_) rfl rfl (by kernel_rfl) (by kernel_rfl) (by kernel_rfl) (fun _ _ _ h => h) (by kernel_rfl) ?_ (by assumption) ?_
    rotate_left
    · (intro w hSw; (try dsimp only at hSw); go_simp; try with_reducible rfl)
    try simp only [Act.put, List.setIfInBounds_toArray, List.set_cons_succ, List.set_cons_zero]
    refine takeH (i := 9) (d := (some 24)) (v := ?_) rfl rfl (by kernel_rfl) (by kernel_rfl) (by kernel_rfl) (fun _ _ _ h => h) (by kernel_rfl) ?_ (by assumption) ?_
    rotate_left
    · (intro w hSw; (try dsimp only at hSw); go_simp; try with_reducible rfl)
    try simp only [Act.put, List.setIfInBounds_toArray, List.set_cons_succ, List.set_cons_zero]
    refine wpAnyH_ready (rs := [4]) (by kernel_rfl) (by simp) ?_
    refine AllReadyH.cons rfl (fun K hK => ?_) AllReadyH.nil
    go_simp
    refine hK.out _ _ ?_ (fun hHeld => ?_)
    · trivial
    clear hK K
    try simp only [Act.put, List.setIfInBounds_toArray, List.set_cons_succ, List.set_cons_zero]
    refine wpAnyH_ready (rs := [5]) (by kernel_rfl) (by simp) ?_
    refine AllReadyH.cons rfl (fun K hK => ?_) AllReadyH.nil
    go_simp
    refine (of_cells r (p + 1 + 1) v zs #[.string ⟨#[48]⟩, .string ⟨#[42]⟩, .string ⟨#[36]⟩, .string ⟨#[13]⟩, .string ⟨#[10]⟩, .string ⟨#[120]⟩] 6 w2.drew (by exact hR2) (by omega) (by rfl) (by decide) (by decide) (by repeat (first | exact trivial | refine ⟨by first | assumption | decide, ?_⟩))).mono ?_; rintro e w3 ⟨s3, rfl, hs3, hR3, hg3⟩; have hq1 : ¬ 9223372036854775807 < k + s3.size := (by omega); have hq2 : ¬ 9223372036854775807 < k + s3.size + (s.size - k) := (by omega)
    refine hK.out _ _ ?_ (fun hHeld => ?_)
    · trivial
    clear hK K
    try simp only [Act.put, List.setIfInBounds_toArray, List.set_cons_succ, List.set_cons_zero]
    refine takeH (i := 6) (d := (some 21)) (v := ?_) rfl rfl (by kernel_rfl) (by kernel_rfl) (by kernel_rfl) (fun _ _ _ h => h) (by kernel_rfl) ?_ (by assumption) ?_
    rotate_left
    · (intro w hSw; (try dsimp only at hSw); go_simp; try with_reducible rfl)
    try simp only [Act.put, List.setIfInBounds_toArray, List.set_cons_succ, List.set_cons_zero]
    refine takeH (i := 10) (d := (some 25)) (v := ?_) rfl rfl (by kernel_rfl) (by kernel_rfl) (by kernel_rfl) (fun _ _ _ h => h) (by kernel_rfl) ?_ (by assumption) ?_
    rotate_left
    · (intro w hSw; (try dsimp only at hSw); go_simp; try with_reducible rfl)
    try simp only [Act.put, List.setIfInBounds_toArray, List.set_cons_succ, List.set_cons_zero]
    refine takeH (i := 11) (d := (some 4)) (v := ?_) rfl rfl (by kernel_rfl) (by kernel_rfl) (by kernel_rfl) (fun _ _ _ h => h) (by kernel_rfl) ?_ (by assumption) ?_
    rotate_left
    · (intro w hSw; (try dsimp only at hSw); go_simp; try with_reducible rfl)
    try simp only [Act.put, List.setIfInBounds_toArray, List.set_cons_succ, List.set_cons_zero]
    refine wpAnyH_done (by kernel_rfl) ?_ _
    have hG3 : w.grownBy w3 (some r) := grown_trans2 hG2 ⟨hg3.os, hg3.tape, hg3.output, hg3.size, hg3.block⟩
    go_wp2_with fail
    go_ret
    exact ⟨_, rfl, by rw [ByteArray.size_append, ByteArray.size_append]; omega, hG3⟩
  · go_wp2_with fail
    go_ret
    exact ⟨_, rfl, by omega, hG2⟩
  · go_wp2_with fail
    go_ret
    exact ⟨_, rfl, by omega, hG2⟩
theorem app_size (a b : ByteArray) (h : a.size ≤ 1000) (h2 : b.size ≤ 1000) : (a ++ b).size ≤ 5000 := by rw [ByteArray.size_append]; omega
set_option maxHeartbeats 4000000 in
theorem drawG_any (v : Value) (zs : List Int) (w : World) (h : IsBytes w v zs) :
    Calls Tryd.prog 12 #[v] w fun e w' => ∃ t, e = .returned (.string t) ∧ t.size ≤ 10100 ∧ Below w.heap.size w w' := by
  go_enter Tryd.func12, Tryd.ntmps12
  go_wp2_with fail
  refine (open_any v zs _ h).mono ?_
  rintro e w1 ⟨rfl, ⟨v1, zs1, hR1⟩, _, hB1⟩
  go_wp2_with fail
  refine (order_any _ 0 v1 zs1 _ hR1 (by omega)).mono ?_
  rintro e w2 ⟨u2, l2, q2, rfl, ho2, hl2, _, hR2, hq2, hg2⟩
  have hB2 := below_rd hB1 hg2
  clear hg2 hB1 hR1
  go_wp2_with fail
  refine (specPut_any u2 l2 _ (owns_reads ho2) (by omega)).mono ?_
  rintro e w3 ⟨rfl, hb3⟩
  have hR3 := rd_grown hR2 hb3
  have hB3 := hB2.trans (hb3.mono hB2.size)
  have hz3 := put_size l2
  clear hb3 hB2 hR2 ho2
  generalize ofL (putL l2) = s3 at *
  go_wp2_with fail
  refine (pick_any _ q2 v1 zs1 3 _ hR3 (by omega) (by omega) (by omega)).mono ?_
  rintro e w4 ⟨x, rfl, hx0, hx1, hR4, hg4⟩
  have hB4 := below_rd hB3 hg4
  clear hg4 hB3 hR3
  cases hx : (x == 0) with
  | true =>
    go_wp2_with fail
    refine (order_any _ _ v1 zs1 _ hR4 (by omega)).mono ?_
    rintro e w5 ⟨u5, l5, q5, rfl, ho5, hl5, _, hR5, hq5, hg5⟩
    have hB5 := below_rd hB4 hg5
    clear hg5 hB4 hR4
    go_wp2_with fail
    refine (specPut_any u5 l5 _ (owns_reads ho5) (by omega)).mono ?_
    rintro e w6 ⟨rfl, hb6⟩
    have hR6 := rd_grown hR5 hb6
    have hB6 := hB5.trans (hb6.mono hB5.size)
    have hz6 := put_size l5
    clear hb6 hB5 hR5 ho5
    generalize ofL (putL l5) = s6 at *
    have hz7 := app_size s3 s6 hz3 hz6
    go_wp2_with fail
    refine (cut_any _ q5 v1 zs1 _ _ hR6 (by omega) (by exact hz7)).mono ?_
    rintro e w7 ⟨t, rfl, ht, hg7⟩
    have hB7 := below_rd hB6 hg7
    go_wp2_with fail
    go_ret
    exact ⟨t, rfl, ht, hB7⟩
  | false =>
    go_wp2_with fail
    refine (cut_any _ _ v1 zs1 _ _ hR4 (by omega) (by omega)).mono ?_
    rintro e w7 ⟨t, rfl, ht, hg7⟩
    have hB7 := below_rd hB4 hg7
    go_wp2_with fail
    go_ret
    exact ⟨t, rfl, ht, hB7⟩
end Go.Proofs.YtfoflnolmlgnfaaDoor
