/- FieldsDrop: the model's. -/
import Derived.Test.YtfnbjjcelncliaaPrDr
import Derived.Test.YtfnbjjcelncliaaPrJ
import Derived.Test.YtfnbjjcelncliaaAq
namespace Go.Proofs.Ytfnbjjcelncliaa
open Go.RowKit

theorem prWo_pos {l : List (ByteArray × ByteArray)} {s : ByteArray} (hok : prOkB l = true) (ht : prThere l s = true) : prWo l s = l.take (prPos l s) ++ l.drop (prPos l s + 1) := by
  have h1 := (prPlc_pos (s := s) hok).1 ht
  have h2 := prPlc_idx (l := l) (s := s) (by omega)
  unfold prWo
  rw [show prIdx l s = prPos l s by omega, List.eraseIdx_eq_take_drop_succ]
theorem prWo_no {l : List (ByteArray × ByteArray)} {s : ByteArray} (hok : prOkB l = true) (ht : prThere l s = false) : prWo l s = l := prWo_miss (by have := (prPlc_pos (s := s) hok).2 ht; omega)

set_option maxHeartbeats 8000000 in
set_option maxRecDepth 20000 in
theorem specFieldsDrop_any (v : Value) (l : List (ByteArray × ByteArray)) (s : ByteArray) (w : World) (hr : PrReads w v l) (hlen : l.length ≤ 1048576) :
    Calls Try.prog 23 #[v, .string s] w fun e w' => ∃ x, e = .returned (.tuple #[x, .bool (prDropB l s)]) ∧ PrOwns w' w.heap.size x (prDropR l s) ∧ Below w.heap.size w w' := by
  obtain ⟨i0, hi0, hz0, hz1, hz2⟩ := info_parts prInfo
  obtain ⟨ao, cap, rfl⟩ := readsR_shape hr
  go_enter Try.func23, Try.ntmps23
  go_wp2_with fail
  refine (specFieldsOk_any _ l _ hr hlen).mono ?_
  rintro e w1 ⟨rfl, hb1⟩
  have hsz1 := hb1.size
  cases hok : prOkB l with
  | false =>
    have HR : Hid (prDropR l s = []) := by show _ = _; unfold prDropR; rw [hok]; rfl
    have HD : Hid (prDropB l s = false) := by show _ = _; unfold prDropB prFindI; rw [hok]; rfl
    have ho1 : PrOwns (w1.alloc (.cells #[] 38)) w.heap.size (.slice (some ⟨w1.heap.size, 0, none⟩) 0 0) [] := World.ownsRow_lit w1 #[] 0 hsz1 (by simp) rfl
    have hB1 : Below w.heap.size w (w1.alloc (.cells #[] 38)) := hb1.alloc hsz1 _
    clear hok
    go_wp2_with fail
    go_ret2
    exact ⟨_, by rw [HD.out]; rfl, by rw [HR.out]; exact ho1, hB1⟩
  | true =>
    have HR : Hid (prDropR l s = prWo l s) := by show _ = _; unfold prDropR; rw [hok]; rfl
    have HD : Hid (prDropB l s = decide (0 ≤ prPlc l s)) := by show _ = _; unfold prDropB prFindI; rw [hok]; rfl
    have HOK : Hid (prOkB l = true) := hok
    clear hok
    go_wp2_with fail
    refine (l3At_any _ l s _ (readsR_kept hr hb1) hlen).mono ?_
    rintro e w2 ⟨rfl, hb2⟩
    have hB2 := hb1.trans (hb2.mono hsz1)
    have hsz2 := hB2.size
    have hr2 := readsR_kept hr hB2
    clear hb1 hb2 hsz1
    have ho0 : (w2.alloc (.cells #[] 38)).ownsRow w.heap.size 38 2 (.slice (some ⟨w2.heap.size, 0, none⟩) 0 0) 0 [] := World.ownsRow_lit w2 #[] 0 hsz2 (by simp) rfl
    have hB0 : Below w.heap.size w (w2.alloc (.cells #[] 38)) := hB2.alloc hsz2 _
    cases ht : prThere l s with
    | false =>
      have HW : Hid (prWo l s = l) := prWo_no HOK.out ht
      have HP : Hid (decide (0 ≤ prPlc l s) = false) := by show _ = _; rw [(prPlc_pos (s := s) HOK.out).2 ht]; rfl
      have hr3 := readsR_kept hr2 ((Below.refl w2.heap.size w2).alloc (Nat.le_refl _) (.cells #[] 38))
      clear ht
      go_wp2_with (at_builtin; refine append_R (c := prC) rfl (.tmp 20) (.tmp 21) 36 rfl w.heap.size 38 i0 _ 2 32 Try.underlying36 hi0 hz0 hz1 hz2 rfl (by decide) _ _ _ rfl ho0 _ rfl l hr3 prC_len prC_one (by unfold maxLen; omega) (by omega) (by simp; omega) ?_)
      intro x5 w5 hown5 hgrow5
      have ho5 : PrOwns w5 w.heap.size x5 l := by unfold PrOwns OwnsR; simpa using hown5
      have hB5 : Below w.heap.size w w5 := hB0.grown hgrow5 (by simp; omega) (fun j hj => (ho0.lt j hj).1)
      clear hown5 hgrow5
      go_wp2_with fail
      go_ret2
      exact ⟨_, by rw [HD.out, HP.out]; rfl, by rw [HR.out, HW.out]; exact ho5, hB5⟩
    | true =>
      have hlt : prPos l s < l.length := by unfold prThere at ht; simp only [Bool.and_eq_true, decide_eq_true_eq] at ht; exact ht.1
      have HW : Hid (prWo l s = l.take (prPos l s) ++ l.drop (prPos l s + 1)) := prWo_pos HOK.out ht
      have HP : Hid (decide (0 ≤ prPlc l s) = true) := by show _ = _; rw [(prPlc_pos (s := s) HOK.out).1 ht]; simp
      obtain ⟨b, off, rfl, hb, hnc, hcm, hc⟩ := pr_some hr2 (by omega)
      generalize prPos l s = k at *
      have hcutA : ReadsR prC 2 w2 (.slice (some ⟨b, off, none⟩) k cap) (l.take k) := by
        have := readsR_cut (sz := 2) (c := prC) hb hnc hcm hc (ao := some ⟨b, off, none⟩) (a := 0) (e := k) (n := k) (k := cap) (fun _ => by simp) (by simp) (Nat.zero_le _) (by omega) (by omega) (by omega)
        rwa [List.drop_zero] at this
      have hcutB : ReadsR prC 2 w2 (.slice (if cap = k + 1 then some ⟨b, off, none⟩ else some ⟨b, off + (k + 1) * 2, none⟩) (l.length - (k + 1)) (cap - (k + 1))) (l.drop (k + 1)) := by
        have := readsR_cut (sz := 2) (c := prC) hb hnc hcm hc (ao := if cap = k + 1 then some ⟨b, off, none⟩ else some ⟨b, off + (k + 1) * 2, none⟩) (a := k + 1) (e := l.length) (n := l.length - (k + 1)) (k := cap - (k + 1)) (fun h => by rw [if_neg h]) (by split <;> simp) (by omega) (Nat.le_refl _) rfl rfl
        rwa [List.take_length] at this
      have HA : Hid _ := hcutA
      have HBc : Hid _ := hcutB
      clear hcutA hcutB hc ht
      unfold maxLen at hcm
      have hk0 : (k : Int) ≤ (cap : Int) := by omega
      have hk1 : (k : Int) + 1 ≤ (l.length : Int) := by omega
      have hk2 : (0 : Int) ≤ (k : Int) + 1 := by omega
      have hk3 : (l.length : Int) ≤ (cap : Int) := by omega
      have hk4 : ((k : Int) + 1).toNat = k + 1 := by omega
      have hwr : IntKind.i64.wrap ((k : Int) + 1) = (k : Int) + 1 := wrap_id64 (by omega) (by omega)
      obtain ⟨ab, hab⟩ : ∃ ab, (if cap = k + 1 then some (⟨b, off, none⟩ : Addr) else some ⟨b, off + (k + 1) * 2, none⟩) = ab := ⟨_, rfl⟩
      rw [hab] at HBc
      go_wp2_with fail
      refine wp_region_held_drew (S := (fun _ => True)) (by kernel_rfl) (by trivial) (fun hHeld => ?_)
      refine takeH (i := 1) (d := (some 24)) (v := ?_) rfl rfl (by kernel_rfl) (by kernel_rfl) (by kernel_rfl) (fun _ _ _ h => h) (by kernel_rfl) ?_ (by assumption) ?_
      rotate_left
      · (intro w hSw; (try dsimp only at hSw); go_simp; try with_reducible rfl)
      try simp only [Act.put, List.setIfInBounds_toArray, List.set_cons_succ, List.set_cons_zero]
      refine takeH (i := 2) (d := (some 25)) (v := ?_) rfl rfl (by kernel_rfl) (by kernel_rfl) (by kernel_rfl) (fun _ _ _ h => h) (by kernel_rfl) ?_ (by assumption) ?_
      rotate_left
      · (intro w hSw; (try dsimp only at hSw); go_simp; try with_reducible rfl)
      try simp only [Act.put, List.setIfInBounds_toArray, List.set_cons_succ, List.set_cons_zero]
      refine takeH (i := 3) (d := (some 26)) (v := ?_) rfl rfl (by kernel_rfl) (by kernel_rfl) (by kernel_rfl) (fun _ _ _ h => h) (by kernel_rfl) ?_ (by assumption) ?_
      rotate_left
      · (intro w hSw; (try dsimp only at hSw); go_simp; try with_reducible rfl)
      try simp only [Act.put, List.setIfInBounds_toArray, List.set_cons_succ, List.set_cons_zero]
      refine takeH (i := 5) (d := (some 28)) (v := ?_) rfl rfl (by kernel_rfl) (by kernel_rfl) (by kernel_rfl) (fun _ _ _ h => h) (by kernel_rfl) ?_ (by assumption) ?_
      rotate_left
      · (intro w hSw; (try dsimp only at hSw); go_simp; try with_reducible rfl)
      try simp only [Act.put, List.setIfInBounds_toArray, List.set_cons_succ, List.set_cons_zero]
      refine takeH (i := 6) (d := (some 29)) (v := ?_) rfl rfl (by kernel_rfl) (by kernel_rfl) (by kernel_rfl) (fun _ _ _ h => h) (by kernel_rfl) ?_ (by assumption) ?_
      rotate_left
      · (intro w hSw; (try dsimp only at hSw); go_simp; try with_reducible rfl)
      try simp only [Act.put, List.setIfInBounds_toArray, List.set_cons_succ, List.set_cons_zero]
      refine takeH (i := 7) (d := (some 30)) (v := ?_) rfl rfl (by kernel_rfl) (by kernel_rfl) (by kernel_rfl) (fun _ _ _ h => h) (by kernel_rfl) ?_ (by assumption) ?_
      rotate_left
      · (intro w hSw; (try dsimp only at hSw); go_simp; try with_reducible rfl)
      try simp only [Act.put, List.setIfInBounds_toArray, List.set_cons_succ, List.set_cons_zero]
      refine takeH (i := 8) (d := (some 31)) (v := ?_) rfl rfl (by kernel_rfl) (by kernel_rfl) (by kernel_rfl) (fun _ _ _ h => h) (by kernel_rfl) ?_ (by assumption) ?_
      rotate_left
      · (intro w hSw; (try dsimp only at hSw); go_simp; try with_reducible rfl)
      try simp only [Act.put, List.setIfInBounds_toArray, List.set_cons_succ, List.set_cons_zero]
      refine wpAnyH_ready (rs := [0]) (by kernel_rfl) (by simp) ?_
      refine AllReadyH.cons rfl (fun K hK => ?_) AllReadyH.nil
      go_simp
      skip
      refine hK.out _ _ ?_ (fun hHeld => ?_)
      · trivial
      clear hK K
      try simp only [Act.put, List.setIfInBounds_toArray, List.set_cons_succ, List.set_cons_zero]
      refine wpAnyH_ready (rs := [4]) (by kernel_rfl) (by simp) ?_
      refine AllReadyH.cons rfl (fun K hK => ?_) AllReadyH.nil
      refine step_append_R (c := prC) (d := some 27) rfl rfl (.tmp 23) (.tmp 26) 36 rfl w.heap.size 38 i0 _ 2 32 Try.underlying36 hi0 hz0 hz1 hz2 rfl (by decide) _ _ _ rfl (World.ownsRow.drew ho0) _ rfl (l.take k) (readsR_kept HA.out ((Below.refl w2.heap.size w2).alloc (Nat.le_refl _) _).drew) prC_len prC_one (by unfold maxLen; simp; omega) (by simp; omega) (by simp; omega) ?_; intro x5 w5 ho5 hg5; have hb5 : Below w2.heap.size w2 w5 := Below.grown ((Below.refl w2.heap.size w2).alloc (Nat.le_refl _) (.cells #[] 38)).drew hg5 (by simp) (fun k hk => by cases hk; exact Nat.le_refl _)
      refine hK.out _ _ ?_ (fun hHeld => ?_)
      · trivial
      clear hK K
      (try simp only [Act.put]); (try simp only [List.setIfInBounds_toArray]); (try simp only [List.set_cons_succ]); (try simp only [List.set_cons_zero])
      refine wpAnyH_ready (rs := [9]) (by kernel_rfl) (by simp) ?_
      refine AllReadyH.cons rfl (fun K hK => ?_) AllReadyH.nil
      refine step_append_R (c := prC) (d := some 32) rfl rfl (.tmp 27) (.tmp 31) 36 rfl w.heap.size 38 i0 _ 2 32 Try.underlying36 hi0 hz0 hz1 hz2 rfl (by decide) _ _ _ rfl ho5 _ rfl (l.drop (k + 1)) (readsR_kept HBc.out hb5) prC_len prC_one (by unfold maxLen; simp; omega) (by simp; omega) (by have := hb5.size; omega) ?_; intro x6 w6 ho6 hg6
      refine hK.out _ _ ?_ (fun hHeld => ?_)
      · trivial
      clear hK K
      (try simp only [Act.put]); (try simp only [List.setIfInBounds_toArray]); (try simp only [List.set_cons_succ]); (try simp only [List.set_cons_zero])
      refine takeH (i := 10) (d := (some 4)) (v := ?_) rfl rfl (by kernel_rfl) (by kernel_rfl) (by kernel_rfl) (fun _ _ _ h => h) (by kernel_rfl) ?_ (by assumption) ?_
      rotate_left
      · (intro w hSw; (try dsimp only at hSw); go_simp; try with_reducible rfl)
      try simp only [Act.put, List.setIfInBounds_toArray, List.set_cons_succ, List.set_cons_zero]
      refine takeH (i := 11) (d := (some 5)) (v := ?_) rfl rfl (by kernel_rfl) (by kernel_rfl) (by kernel_rfl) (fun _ _ _ h => h) (by kernel_rfl) ?_ (by assumption) ?_
      rotate_left
      · (intro w hSw; (try dsimp only at hSw); go_simp; try with_reducible rfl)
      try simp only [Act.put, List.setIfInBounds_toArray, List.set_cons_succ, List.set_cons_zero]
      refine wpAnyH_done (by kernel_rfl) ?_ _
      have hB5 := hB2.trans (hb5.mono hsz2)
      have hB6 : Below w.heap.size w w6 := hB5.grown hg6 (by have := hb5.size; omega) (fun j hj => (ho5.lt j hj).1)
      have ho7 : PrOwns w6 w.heap.size x6 (l.take k ++ l.drop (k + 1)) := by
        unfold PrOwns OwnsR
        rw [List.length_append, List.flatMap_append]
        simpa using ho6
      clear hHeld ho6 hg6 ho5 hg5 hb5 hB5 HA HBc hab hwr
      go_wp2_with fail
      go_ret2
      exact ⟨_, by rw [HD.out, HP.out]; rfl, by rw [HR.out, HW.out]; exact ho7, hB6⟩
end Go.Proofs.Ytfnbjjcelncliaa
