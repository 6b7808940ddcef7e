/- The program's OrderGet is the machine's run. -/
import Derived.Test.YtfoflnolmlgnfaaDoorOrdN
namespace Go.Proofs.YtfoflnolmlgnfaaDoor
open Go.RowKit

theorem owns_shapeO {w : World} {B : Nat} {v : Value} {l : List ByteArray} (h : Owns w B v l) : ∃ ao cap, v = .slice ao l.length cap := by
  rcases h.2 with ⟨rfl, h0⟩ | ⟨g, cap, cur, rfl, _⟩
  · rw [h0]; exact ⟨_, _, rfl⟩
  · exact ⟨_, _, rfl⟩
set_option maxHeartbeats 8000000 in
theorem orderGet_any (s : ByteArray) (w : World) (hs : s.size ≤ 1048576) :
    Calls Tryd.prog 13 #[.string s] w fun e w' => ∃ wv, e = .returned (.tuple #[wv, .int .i64 (mach σ0 s.data.toList 0).2]) ∧ Owns w' w.heap.size wv (mach σ0 s.data.toList 0).1 ∧ Below w.heap.size w w' := by
  have hrs := fun (w : World) (a : Addr) (r : Nat) => run_store Tryd.prog w a (.func (.func 35) #[.pointer (some ⟨r, 0, none⟩)] #[]) .plain rfl
  go_enter Tryd.func13, Tryd.ntmps13
  go_wp2_with fail
  clear hrs
  go_loopw [15] (fun i wr => ∃ (k : Nat) (σ : MS), i = .int .i64 (k : Int) ∧ k ≤ s.size ∧ Hid (mach σ0 s.data.toList 0 = mach σ (s.data.toList.drop k) k) ∧ inv σ ∧ RS wr w.heap.size w.heap.size σ ∧ Below w.heap.size w wr) (fun i _ => s.size - (intOf i).toNat)
  case atStart => exact ⟨0, σ0, rfl, Nat.zero_le _, rfl, inv_start, rs_start w, (Below.refl _ _).alloc (Nat.le_refl _) _⟩
  case round =>
    obtain ⟨k, ⟨ph, buf, ws, m, n⟩, rfl, hk, HM, hI, hR, hB⟩ := hrel
    have hBs := hB.size
    have hph := inv_ph hI
    have hbl := inv_buf hI
    have hwl := inv_ws hI
    by_cases hlt : k < s.size
    · have hi1 : (k : Int) < (s.size : Int) := by omega
      obtain ⟨p, wv, hp, hE, ho⟩ := id hR
      have hc2 := (eb_cell2 hE).1
      unfold stp at hc2
      simp only at hph hbl hwl hc2
      clear hp hE ho
      rcases hph with rfl | rfl | rfl | rfl | rfl | rfl | rfl | rfl | rfl
      all_goals
        have hph := inv_ph hI
        go_wp2_with fail
        refine wp_region_held_drew (S := (fun _ => True)) (by kernel_rfl) (by trivial) (fun hHeld => ?_)
        refine takeH (i := 0) (d := (some 18)) (v := ?_) rfl rfl (by kernel_rfl) (by kernel_rfl) (by kernel_rfl) (fun _ _ _ h => h) (by kernel_rfl) ?_ (by assumption) ?_
        rotate_left
        · (intro w hSw; (try dsimp only at hSw); go_simp; try with_reducible rfl)
        try simp only [Act.put, List.setIfInBounds_toArray, List.set_cons_succ, List.set_cons_zero]
        refine takeH (i := 1) (d := (some 19)) (v := ?_) rfl rfl (by kernel_rfl) (by kernel_rfl) (by kernel_rfl) (fun _ _ _ h => h) (by kernel_rfl) ?_ (by assumption) ?_
        rotate_left
        · (intro w hSw; (try dsimp only at hSw); go_simp; try with_reducible rfl)
        try simp only [Act.put, List.setIfInBounds_toArray, List.set_cons_succ, List.set_cons_zero]
        refine takeH (i := 2) (d := (some 20)) (v := ?_) rfl rfl (by kernel_rfl) (by kernel_rfl) (by kernel_rfl) (fun _ _ _ h => h) (by kernel_rfl) ?_ (by assumption) ?_
        rotate_left
        · (intro w hSw; (try dsimp only at hSw); go_simp; try with_reducible rfl)
        try simp only [Act.put, List.setIfInBounds_toArray, List.set_cons_succ, List.set_cons_zero]
        refine takeH (i := 4) (d := (some 22)) (v := ?_) rfl rfl (by kernel_rfl) (by kernel_rfl) (by kernel_rfl) (fun _ _ _ h => h) (by kernel_rfl) ?_ (by assumption) ?_
        rotate_left
        · (intro w hSw; (try dsimp only at hSw); go_simp; try with_reducible rfl)
        try simp only [Act.put, List.setIfInBounds_toArray, List.set_cons_succ, List.set_cons_zero]
        refine takeH (i := 5) (d := (some 23)) (v := ?_) rfl rfl (by kernel_rfl) (by kernel_rfl) (by kernel_rfl) (fun _ _ _ h => h) (by kernel_rfl) ?_ (by assumption) ?_
        rotate_left
        · (intro w hSw; (try dsimp only at hSw); go_simp; try with_reducible rfl)
        try simp only [Act.put, List.setIfInBounds_toArray, List.set_cons_succ, List.set_cons_zero]
        refine takeH (i := 6) (d := (some 24)) (v := ?_) rfl rfl (by kernel_rfl) (by kernel_rfl) (by kernel_rfl) (fun _ _ _ h => h) (by kernel_rfl) ?_ (by assumption) ?_
        rotate_left
        · (intro w hSw; (try dsimp only at hSw); go_simp; try with_reducible rfl)
        try simp only [Act.put, List.setIfInBounds_toArray, List.set_cons_succ, List.set_cons_zero]
        refine wpAnyH_ready (rs := [3]) (by kernel_rfl) (by simp) ?_
        refine AllReadyH.cons rfl (fun K hK => ?_) AllReadyH.nil
        go_simp
        refine hK.out _ _ ?_ (fun hHeld => ?_)
        · trivial
        clear hK K
        try simp only [Act.put, List.setIfInBounds_toArray, List.set_cons_succ, List.set_cons_zero]
        refine wpAnyH_ready (rs := [7]) (by kernel_rfl) (by simp) ?_
        refine AllReadyH.cons rfl (fun K hK => ?_) AllReadyH.nil
        go_simp
        refine (step_all w.heap.size w.heap.size ⟨_, buf, ws, m, n⟩ s[k] _ hph (by exact hR) hbl hwl (by exact hBs)).mono ?_; rintro e w3 ⟨rfl, hR3, hB3⟩
        refine hK.out _ _ ?_ (fun hHeld => ?_)
        · trivial
        clear hK K
        try simp only [Act.put, List.setIfInBounds_toArray, List.set_cons_succ, List.set_cons_zero]
        refine takeH (i := 8) (d := (some 26)) (v := ?_) rfl rfl (by kernel_rfl) (by kernel_rfl) (by kernel_rfl) (fun _ _ _ h => h) (by kernel_rfl) ?_ (by assumption) ?_
        rotate_left
        · (intro w hSw; (try dsimp only at hSw); go_simp; try with_reducible rfl)
        try simp only [Act.put, List.setIfInBounds_toArray, List.set_cons_succ, List.set_cons_zero]
        refine wpAnyH_done (by kernel_rfl) ?_ _
        have hB3' : Below w.heap.size w w3 := hB.trans ⟨hB3.os, hB3.tape, hB3.output, hB3.size, hB3.block⟩
        clear hB3 hB hc2 hph hbl hwl hHeld hR
        have hss := inv_step _ hI s[k]
        generalize hσ : (MS.mk _ buf ws m n) = σ at *
        cases hb : stepB σ s[k] with
        | false =>
          have HE := HM.out.trans (mach_no hlt hb)
          go_wp2_with fail
          go_ret2
          exact ⟨.slice none 0 0, by rw [HE]; rfl, by rw [HE]; exact World.ownsRow_nil _ _ _ _, hB3'⟩
        | true =>
          obtain ⟨p3, wv3, hp3, hE3, ho3⟩ := id hR3
          obtain ⟨a3, c3, hu⟩ := owns_shapeO ho3
          subst hu
          have hc3 := (eb_cell2 hE3).2.1
          go_wp2_with fail
          refine (whole_any w.heap.size w.heap.size p3 _ _ _ a3 _ c3 _ _ (by exact hE3)).mono ?_
          rintro e w4 ⟨rfl, rfl⟩
          cases hw : wholeB (stepS σ s[k]).m (stepS σ s[k]).ws.length with
          | true =>
            have HE := HM.out.trans (mach_whole hlt hb hw)
            go_wp2_with fail
            go_ret2
            exact ⟨_, by rw [HE]; rfl, by rw [HE]; exact ho3, hB3'.drew⟩
          | false =>
            go_wp2_with fail
            go_roundw
            case rel => exact ⟨k + 1, stepS σ s[k], by go_num, hlt, HM.out.trans (mach_on hlt hb hw), hss hb hw, rs_drew hR3 1, hB3'.drew⟩
            case measure => simp [intOf]; omega
    · have hi1 : ¬ (k : Int) < (s.size : Int) := by omega
      have HE := HM.out.trans (mach_end hlt)
      go_wp2_with fail
      go_ret2
      exact ⟨.slice none 0 0, rfl, World.ownsRow_nil _ _ _ _, hB⟩
end Go.Proofs.YtfoflnolmlgnfaaDoor
