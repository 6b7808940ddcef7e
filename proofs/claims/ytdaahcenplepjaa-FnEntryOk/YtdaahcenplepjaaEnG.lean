/- A drawn entry; what is ok of one kind is not of another one. -/
import Derived.Test.YtdaahcenplepjaaEnF
namespace Go.Proofs.Ytdaahcenplepjaa
open Go.RowKit
set_option linter.unusedVariables false

theorem bytes_kept {w w' : World} {v : Value} {zs : List Int} (h : IsBytes w v zs) (hb : Below w.heap.size w w') : IsBytes w' v zs := by
  obtain ⟨ao, cap, rfl, hlc, hcm, hzb, hz⟩ := h
  refine ⟨ao, cap, rfl, hlc, hcm, hzb, fun h0 => ?_⟩
  obtain ⟨b, off, hao, hlt, hc⟩ := hz h0
  exact ⟨b, off, hao, Nat.lt_of_lt_of_le hlt hb.size, fun k hk => (hb.cell (p := ⟨b, off + k, none⟩) hlt).trans (hc k hk)⟩
set_option maxHeartbeats 4000000 in
theorem drawEntryOk_any (v : Value) (zs : List Int) (w : World) (h : IsBytes w v zs) :
    Calls Try.prog 4 #[v] w fun x w' => (∃ e vl vs vf, x = .returned (enV e vl vs vf) ∧ EnReads w' vl vs vf e ∧ EnTiny e) ∧ Below w.heap.size w w' := by
  obtain ⟨ao, cap, hv, _⟩ := id h
  subst hv
  go_enter Try.func4, Try.ntmps4
  go_wp2_with fail
  obtain ⟨w0, hW⟩ : ∃ W, w.alloc (.cells #[.string ⟨#[]⟩, .int .i64 0, .int .i64 0, .string ⟨#[]⟩, .slice none 0 0, .slice none 0 0, .slice none 0 0] 27) = W := ⟨_, rfl⟩
  have hBr : Below w.heap.size w w0 := by rw [← hW]; exact (Below.refl w.heap.size w).alloc (Nat.le_refl _) _
  have hib := bytes_kept h hBr
  have hz0 : w.heap.size < w0.heap.size := by rw [← hW]; simp
  have q0 : Hid (w0.heap[w.heap.size]? = some (.cells #[.string ⟨#[]⟩, .int .i64 0, .int .i64 0, .string ⟨#[]⟩, .slice none 0 0, .slice none 0 0, .slice none 0 0] 27 (0, 0))) := by show _ = _; rw [← hW]; exact heap_alloc_new _ _
  rw [hW]
  clear hW
  refine (open_any _ zs _ hib).mono ?_
  rintro x w1 ⟨rfl, ⟨v', zs', hR1⟩, hlt, hb1⟩
  have q1 : Hid _ := row_below q0.out hb1 hz0
  have hB1 := hBr.trans (hb1.mono hBr.size)
  have hne := hz0
  clear hib hBr q0 h
  go_wp2_with fail
  refine (entry_draw _ 0 v' zs' _ hR1 (by omega)).mono ?_
  rintro x w2 ⟨⟨e, vl, vs, vf, b, rfl, hb, h3, ht⟩, hg⟩
  obtain ⟨al, cl, as_, cs, af, cf, rfl, rfl, rfl⟩ := enReads_shape (en3_reads h3)
  have q2 : Hid _ := row_grown q1.out hg (by omega)
  have hB2 : Below w.heap.size w w2 := hB1.grown hg (by have := hB1.size; omega) (fun k hk => by simp only [Option.some.injEq] at hk; omega)
  have d0 : w2.cell? ⟨w.heap.size, 0, none⟩ = some (.string ⟨#[]⟩) := by rw [cell_of_row _ _ _ _ _ _ q2.out]; rfl
  have d1 : w2.cell? ⟨w.heap.size, 1, none⟩ = some (.int .i64 0) := by rw [cell_of_row _ _ _ _ _ _ q2.out]; rfl
  have d2 : w2.cell? ⟨w.heap.size, 2, none⟩ = some (.int .i64 0) := by rw [cell_of_row _ _ _ _ _ _ q2.out]; rfl
  have d3 : w2.cell? ⟨w.heap.size, 3, none⟩ = some (.string ⟨#[]⟩) := by rw [cell_of_row _ _ _ _ _ _ q2.out]; rfl
  have d4 : w2.cell? ⟨w.heap.size, 4, none⟩ = some (.slice none 0 0) := by rw [cell_of_row _ _ _ _ _ _ q2.out]; rfl
  have d5 : w2.cell? ⟨w.heap.size, 5, none⟩ = some (.slice none 0 0) := by rw [cell_of_row _ _ _ _ _ _ q2.out]; rfl
  have d6 : w2.cell? ⟨w.heap.size, 6, none⟩ = some (.slice none 0 0) := by rw [cell_of_row _ _ _ _ _ _ q2.out]; rfl
  have f0 : ∀ o, w2.frozen? ⟨w.heap.size, o, none⟩ = false := fun o => by simp [World.frozen?, q2.out]
  have HQ : Hid _ := q2.out
  clear hg q1 hR1 hB1
  have hbz : w.heap.size < b := by omega
  go_wp2_with fail
  refine bodyPost_ret (results_cell_row rfl _ _ w.heap.size 27 _ (0, 0) _ rfl (box7_setc HQ.out _ _ _ _ _ _ _) Try.underlying27 rfl (by kernel_rfl)) rfl ?_
  have e3 := all7 (fun W => En3 W b _ _ _ e) w.heap.size (fun W o u h => en3_grown h (cell_grown W _ u) hbz) h3
  have eG := all7 (fun W => Below w.heap.size w W) w.heap.size (fun W o u h => h.setCell (p := ⟨w.heap.size, o, none⟩) (Nat.le_refl _) u) hB2
  exact ⟨⟨e, _, _, _, rfl, en3_reads (e3 _ _ _ _ _ _ _), ht⟩, eG _ _ _ _ _ _ _⟩
end Go.Proofs.Ytdaahcenplepjaa
