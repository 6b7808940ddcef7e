/- Whether a table of entries is ok, and a base: the program's. -/
import Derived.Test.YtaiboncomibikaaGreatDoorEnL
namespace Go.Proofs.YtaiboncomibikaaGreatDoor
open Go.RowKit
set_option linter.unusedVariables false

theorem bsRow_asc {n : Int} {L : List Ent} {j : Nat} (h : bsRowOk n L (j + 1) = true) : prLt (enAt L j).key (enAt L (j + 1)).key = true := by
  unfold bsRowOk at h; simp only [Bool.and_eq_true, Bool.or_eq_true, decide_eq_true_eq, Nat.add_sub_cancel] at h
  rcases h.2 with h | h
  · omega
  · exact h
theorem bsAsc_to {n : Int} {L : List Ent} {k : Nat} (h : bsTo n L k) : ∀ (d i : Nat), i + d + 1 < k → prLt (enAt L i).key (enAt L (i + d + 1)).key = true
  | 0, i, hi => bsRow_asc (h (i + 1) hi)
  | d + 1, i, hi => prLt_trans (bsAsc_to h d i (by omega)) (bsRow_asc (h (i + d + 1 + 1) hi))
/-- where all is ascending no key stood ahead -/
theorem esNo_asc {n : Int} {l : List Row} {k : Nat} (hk : k < l.length) (h : bsTo n (l.map Row.e) k) (ha : k = 0 ∨ prLt (esAt l (k - 1)).e.key (esAt l k).e.key = true) : esPlc l (esAt l k).e.key = (k : Int) := by
  refine (esPlc_hit hk (fun j hj => ?_) rfl).2
  intro e
  have hlt : prLt (esAt l j).e.key (esAt l k).e.key = true := by
    rcases ha with h0 | ha
    · omega
    · by_cases h1 : j = k - 1
      · rw [h1]; exact ha
      · have := bsAsc_to h (k - 2 - j) j (by omega)
        rw [show j + (k - 2 - j) + 1 = k - 1 by omega, enAt_map l j (by omega), enAt_map l (k - 1) (by omega)] at this
        exact prLt_trans this ha
  rw [e, prLt_irrefl] at hlt
  cases hlt
/-- the seven cells of a row, wherever it lies -/
def Box7R (w : World) (b o : Nat) (x : Row) : Prop :=
  w.cell? ⟨b, o, none⟩ = some (.string x.e.key) ∧ w.cell? ⟨b, o + 1, none⟩ = some (.int .i64 x.e.til) ∧ w.cell? ⟨b, o + 2, none⟩ = some (.int .i64 x.e.kind) ∧ w.cell? ⟨b, o + 3, none⟩ = some (.string x.e.text) ∧
    w.cell? ⟨b, o + 4, none⟩ = some (.slice x.al x.e.list.length x.cl) ∧ w.cell? ⟨b, o + 5, none⟩ = some (.slice x.as_ x.e.scores.length x.cs) ∧ w.cell? ⟨b, o + 6, none⟩ = some (.slice x.af x.e.fields.length x.cf)
theorem box7R_kept {w w' : World} {b o : Nat} {x : Row} (h : Box7R w b o x) (hb : Below w.heap.size w w') (hlt : b < w.heap.size) : Box7R w' b o x := by
  obtain ⟨h0, h1, h2, h3, h4, h5, h6⟩ := h
  have g : ∀ p, w'.cell? ⟨b, p, none⟩ = w.cell? ⟨b, p, none⟩ := fun p => hb.cell (p := ⟨b, p, none⟩) hlt
  exact ⟨(g _).trans h0, (g _).trans h1, (g _).trans h2, (g _).trans h3, (g _).trans h4, (g _).trans h5, (g _).trans h6⟩
def esOkB (n : Int) (L : List Ent) : Bool := decide (L.length ≤ 12) && bsAll n L

set_option maxHeartbeats 32000000 in
set_option maxRecDepth 100000 in
theorem esOk_any (v : Value) (l : List Row) (B : Nat) (n : Int) (u : Value) (w : World) (hr : EsReads w v l) (hs : EsSmall l) (hbB : w.heap[B]? = some (.cells #[.int .i64 n, u] 31 (0, 0))) :
    Calls Tryz.prog 28 #[.agg #[v, .int .i64 12, .func (.func 47) #[] #[], .func (.func 48) #[] #[], .func (.func 44) #[] #[.pointer (some ⟨B, 0, none⟩)]]] w fun x w' => x = .returned (.bool (esOkB n (l.map Row.e))) ∧ Below w.heap.size w w' := by
  obtain ⟨ao, cap, rfl⟩ := readsR_shape hr.rows
  have hlen := hs.len
  have HLB : Hid (B < w.heap.size) := (Array.getElem?_eq_some_iff.1 hbB).1
  have HBB : Hid _ := hbB
  clear hbB
  have hB0 : Below w.heap.size w (w.alloc (.cells #[.slice ao l.length cap, .int .i64 12, .func (.func 47) #[] #[], .func (.func 48) #[] #[], .func (.func 44) #[] #[.pointer (some ⟨B, 0, none⟩)]] 61)) := (Below.refl _ w).alloc (Nat.le_refl _) _
  have hrow0 : Hid _ := heap_alloc_new w (.cells #[.slice ao l.length cap, .int .i64 12, .func (.func 47) #[] #[], .func (.func 48) #[] #[], .func (.func 44) #[] #[.pointer (some ⟨B, 0, none⟩)]] 61)
  by_cases h12 : 12 < (l.length : Int)
  · go_enter Tryz.func28, Tryz.ntmps28
    go_wp2_with fail
    go_ret
    exact ⟨ret_bool (by unfold esOkB; rw [decide_eq_false (by simp; omega), Bool.false_and]), hB0⟩
  · have HL : Hid (esOkB n (l.map Row.e) = bsAll n (l.map Row.e)) := by show _ = _; unfold esOkB; rw [decide_eq_true (by simp; omega), Bool.true_and]
    go_enter Tryz.func28, Tryz.ntmps28
    go_wp2_with fail
    go_loopw [14] (fun i wr => ∃ k : Nat, k ≤ l.length ∧ i = .int .i64 k ∧ bsTo n (l.map Row.e) k ∧ Hid (wr.heap[w.heap.size]? = some (.cells #[.slice ao l.length cap, .int .i64 12, .func (.func 47) #[] #[], .func (.func 48) #[] #[], .func (.func 44) #[] #[.pointer (some ⟨B, 0, none⟩)]] 61 (0, 0))) ∧ Below w.heap.size w wr) (fun i _ => l.length - (intOf i).toNat)
    case atStart => exact ⟨0, Nat.zero_le _, rfl, fun j hj => by omega, hrow0, hB0⟩
    case round =>
      obtain ⟨k, hk, rfl, hto, hrow, hB⟩ := hrel
      clear hB0 hrow0
      have HTO : Hid (bsTo n (l.map Row.e) k) := hto
      clear hto
      by_cases hlt : k < l.length
      · obtain ⟨b, off, rfl, hb, _, _, hc⟩ := es_some hr.rows (by omega)
        obtain ⟨c0, c1, c2, c3, c4, c5, c6⟩ := es_cells hc hB hb hlt
        have hk1 : (k : Int) < (l.length : Int) := by omega
        have hzw : w.heap.size < wr.heap.size := (Array.getElem?_eq_some_iff.1 hrow.out).1
        have HM : Hid (enAt (l.map Row.e) k = (esAt l k).e) := enAt_map l k hlt
        have hin := rowIn_kept (hr.ins _ (esAt_mem hlt)) hB
        have hss := hs.each _ (esAt_mem hlt)
        have hbw : b < wr.heap.size := Nat.lt_of_lt_of_le hb hB.size
        have HP : Hid (∀ j, j < l.length → Box7R wr b (off + j * 7) (esAt l j)) := fun j hj => es_cells hc hB hb hj
        have hrr : EsReads wr (.slice (some ⟨b, off, none⟩) l.length cap) l := esReads_kept hr hB
        have hbb : wr.heap[B]? = some (.cells #[.int .i64 n, u] 31 (0, 0)) := (hB.block B HLB.out).trans HBB.out
        have hlb : B < wr.heap.size := Nat.lt_of_lt_of_le HLB.out hB.size
        have HHBB : Hid _ := hbb
        have HROW : Hid _ := hrow.out
        clear hc hbb
        go_wp2_with fail
        obtain ⟨W, hW⟩ : ∃ W, wr.alloc (.cells #[.string (esAt l k).e.key, .int .i64 (esAt l k).e.til, .int .i64 (esAt l k).e.kind, .string (esAt l k).e.text, .slice (esAt l k).al (esAt l k).e.list.length (esAt l k).cl, .slice (esAt l k).as_ (esAt l k).e.scores.length (esAt l k).cs, .slice (esAt l k).af (esAt l k).e.fields.length (esAt l k).cf] 43) = W := ⟨_, rfl⟩
        have hbW : Below wr.heap.size wr W := by rw [← hW]; exact (Below.refl _ _).alloc (Nat.le_refl _) _
        have hbox : W.heap[wr.heap.size]? = some (.cells #[.string (esAt l k).e.key, .int .i64 (esAt l k).e.til, .int .i64 (esAt l k).e.kind, .string (esAt l k).e.text, .slice (esAt l k).al (esAt l k).e.list.length (esAt l k).cl, .slice (esAt l k).as_ (esAt l k).e.scores.length (esAt l k).cs, .slice (esAt l k).af (esAt l k).e.fields.length (esAt l k).cf] 43 (0, 0)) := by rw [← hW]; exact heap_alloc_new _ _
        have hWz : wr.heap.size < W.heap.size := by rw [← hW]; simp
        have hBW := hB.trans (hbW.mono hB.size)
        have hqW := (hbW.block w.heap.size hzw).trans HROW.out
        have HQ : Hid (∀ w', Below W.heap.size W w' → w'.heap[w.heap.size]? = some (.cells #[.slice (some ⟨b, off, none⟩) l.length cap, .int .i64 12, .func (.func 47) #[] #[], .func (.func 48) #[] #[], .func (.func 44) #[] #[.pointer (some ⟨B, 0, none⟩)]] 61 (0, 0))) := fun w' h => (h.block w.heap.size (by omega)).trans hqW
        have HR : Hid (∀ w', Below W.heap.size W w' → RowIn w' (esAt l k)) := fun w' h => rowIn_kept (rowIn_kept hin hbW) h
        have HES : Hid (∀ w', Below W.heap.size W w' → EsReads w' (.slice (some ⟨b, off, none⟩) l.length cap) l) := fun w' h => esReads_kept (esReads_kept hrr hbW) h
        have HB : Hid (∀ w', Below W.heap.size W w' → w'.heap[B]? = some (.cells #[.int .i64 n, u] 31 (0, 0))) := fun w' h => (h.block B (by omega)).trans ((hbW.block B hlb).trans HHBB.out)
        have HX : Hid (∀ w', Below W.heap.size W w' → Box7 w' wr.heap.size (.string (esAt l k).e.key) (.int .i64 (esAt l k).e.til) (.int .i64 (esAt l k).e.kind) (.string (esAt l k).e.text) (.slice (esAt l k).al (esAt l k).e.list.length (esAt l k).cl) (.slice (esAt l k).as_ (esAt l k).e.scores.length (esAt l k).cs) (.slice (esAt l k).af (esAt l k).e.fields.length (esAt l k).cf)) := fun w' h => box7_below (box7_row hbox) h hWz
        have HPW : Hid (∀ w', Below W.heap.size W w' → ∀ j, j < l.length → Box7R w' b (off + j * 7) (esAt l j)) := fun w' h j hj => box7R_kept (box7R_kept (HP.out j hj) hbW hbw) h (by omega)
        rw [hW]
        clear hW hbW hbox hB hqW HP hin c0 c1 c2 c3 c4 c5 c6 hrow HROW hrr HHBB
        have HS : Hid (∀ w', Below W.heap.size W w' → Below W.heap.size W w' ∧ w'.cell? ⟨w.heap.size, 0, none⟩ = some (.slice (some ⟨b, off, none⟩) l.length cap) ∧ w'.cell? ⟨w.heap.size, 1, none⟩ = some (.int .i64 12) ∧ w'.cell? ⟨w.heap.size, 2, none⟩ = some (.func (.func 47) #[] #[]) ∧ w'.cell? ⟨w.heap.size, 3, none⟩ = some (.func (.func 48) #[] #[]) ∧ w'.cell? ⟨w.heap.size, 4, none⟩ = some (.func (.func 44) #[] #[.pointer (some ⟨B, 0, none⟩)]) ∧ w'.cell? ⟨wr.heap.size, 0, none⟩ = some (.string (esAt l k).e.key) ∧ w'.cell? ⟨wr.heap.size, 1, none⟩ = some (.int .i64 (esAt l k).e.til) ∧ w'.cell? ⟨wr.heap.size, 2, none⟩ = some (.int .i64 (esAt l k).e.kind) ∧ w'.cell? ⟨wr.heap.size, 3, none⟩ = some (.string (esAt l k).e.text) ∧ w'.cell? ⟨wr.heap.size, 4, none⟩ = some (.slice (esAt l k).al (esAt l k).e.list.length (esAt l k).cl) ∧ w'.cell? ⟨wr.heap.size, 5, none⟩ = some (.slice (esAt l k).as_ (esAt l k).e.scores.length (esAt l k).cs) ∧ w'.cell? ⟨wr.heap.size, 6, none⟩ = some (.slice (esAt l k).af (esAt l k).e.fields.length (esAt l k).cf)) := fun w' h =>
          ⟨h, by rw [cell_of_row _ _ _ _ _ _ (HQ.out w' h)]; rfl, by rw [cell_of_row _ _ _ _ _ _ (HQ.out w' h)]; rfl, by rw [cell_of_row _ _ _ _ _ _ (HQ.out w' h)]; rfl, by rw [cell_of_row _ _ _ _ _ _ (HQ.out w' h)]; rfl, by rw [cell_of_row _ _ _ _ _ _ (HQ.out w' h)]; rfl, (HX.out w' h).c0, (HX.out w' h).c1, (HX.out w' h).c2, (HX.out w' h).c3, (HX.out w' h).c4, (HX.out w' h).c5, (HX.out w' h).c6⟩
        clear HX
        cases hF : (enOkB (esAt l k).e && lastsB (esAt l k).e n) with
        | false =>
          have HN : Hid (bsAll n (l.map Row.e) = false) := bsTo_not (by simpa using hlt) (by
            unfold bsRowOk; rw [HM.out]; unfold lastsB at hF; rw [hF]; rfl)
          refine wp_region_held_drew (S := (fun w' => Below W.heap.size W w' ∧ w'.cell? ⟨w.heap.size, 0, none⟩ = some (.slice (some ⟨b, off, none⟩) l.length cap) ∧ w'.cell? ⟨w.heap.size, 1, none⟩ = some (.int .i64 12) ∧ w'.cell? ⟨w.heap.size, 2, none⟩ = some (.func (.func 47) #[] #[]) ∧ w'.cell? ⟨w.heap.size, 3, none⟩ = some (.func (.func 48) #[] #[]) ∧ w'.cell? ⟨w.heap.size, 4, none⟩ = some (.func (.func 44) #[] #[.pointer (some ⟨B, 0, none⟩)]) ∧ w'.cell? ⟨wr.heap.size, 0, none⟩ = some (.string (esAt l k).e.key) ∧ w'.cell? ⟨wr.heap.size, 1, none⟩ = some (.int .i64 (esAt l k).e.til) ∧ w'.cell? ⟨wr.heap.size, 2, none⟩ = some (.int .i64 (esAt l k).e.kind) ∧ w'.cell? ⟨wr.heap.size, 3, none⟩ = some (.string (esAt l k).e.text) ∧ w'.cell? ⟨wr.heap.size, 4, none⟩ = some (.slice (esAt l k).al (esAt l k).e.list.length (esAt l k).cl) ∧ w'.cell? ⟨wr.heap.size, 5, none⟩ = some (.slice (esAt l k).as_ (esAt l k).e.scores.length (esAt l k).cs) ∧ w'.cell? ⟨wr.heap.size, 6, none⟩ = some (.slice (esAt l k).af (esAt l k).e.fields.length (esAt l k).cf))) (by kernel_rfl) (by exact HS.out _ (Below.refl _ _).drew) (fun hHeld => ?_)
          refine takeH (i := 0) (d := (some 19)) (v := ?_) rfl rfl (by kernel_rfl) (by kernel_rfl) (by kernel_rfl) (fun _ _ _ h => h) (by kernel_rfl) ?_ (by assumption) ?_
          rotate_left
          · (intro w hSw; (try dsimp only at hSw); go_simp; try with_reducible rfl)
          try simp only [Act.put, List.setIfInBounds_toArray, List.set_cons_succ, List.set_cons_zero]
          refine takeH (i := 1) (d := (some 20)) (v := ?_) rfl rfl (by kernel_rfl) (by kernel_rfl) (by kernel_rfl) (fun _ _ _ h => h) (by kernel_rfl) ?_ (by assumption) ?_
          rotate_left
          · (intro w hSw; (try dsimp only at hSw); go_simp; try with_reducible rfl)
          try simp only [Act.put, List.setIfInBounds_toArray, List.set_cons_succ, List.set_cons_zero]
          refine takeH (i := 2) (d := (some 21)) (v := ?_) rfl rfl (by kernel_rfl) (by kernel_rfl) (by kernel_rfl) (fun _ _ _ h => h) (by kernel_rfl) ?_ (by assumption) ?_
          rotate_left
          · (intro w hSw; (try dsimp only at hSw); go_simp; try with_reducible rfl)
          try simp only [Act.put, List.setIfInBounds_toArray, List.set_cons_succ, List.set_cons_zero]
          refine wpAnyH_ready (rs := [3]) (by kernel_rfl) (by simp) ?_
          refine AllReadyH.cons rfl (fun K hK => ?_) AllReadyH.nil
          go_simp
          refine (entryFits_any (esAt l k).e _ _ _ _ _ _ B n u _ (HR.out _ hHeld.1) hss (HB.out _ hHeld.1)).mono ?_; rintro x w3 ⟨he, hb3⟩; rw [hF] at he; subst he; have hk3 := HS.out _ (hHeld.1.trans (hb3.mono hHeld.1.size)); clear hb3
          refine hK.out _ _ ?_ (fun hHeld => ?_)
          · exact hk3
          clear hK K
          try simp only [Act.put, List.setIfInBounds_toArray, List.set_cons_succ, List.set_cons_zero]
          refine takeH (i := 4) (d := (some 23)) (v := ?_) rfl rfl (by kernel_rfl) (by kernel_rfl) (by kernel_rfl) (fun _ _ _ h => h) (by kernel_rfl) ?_ (by assumption) ?_
          rotate_left
          · (intro w hSw; (try dsimp only at hSw); go_simp; try with_reducible rfl)
          try simp only [Act.put, List.setIfInBounds_toArray, List.set_cons_succ, List.set_cons_zero]
          refine takeH (i := 5) (d := (some 24)) (v := ?_) rfl rfl (by kernel_rfl) (by kernel_rfl) (by kernel_rfl) (fun _ _ _ h => h) (by kernel_rfl) ?_ (by assumption) ?_
          rotate_left
          · (intro w hSw; (try dsimp only at hSw); go_simp; try with_reducible rfl)
          try simp only [Act.put, List.setIfInBounds_toArray, List.set_cons_succ, List.set_cons_zero]
          refine skipH (i := 6) (d := (some 25)) rfl rfl (by kernel_rfl) (by kernel_rfl) (by kernel_rfl) (fun _ _ _ h => h) (by kernel_rfl) (by assumption) ?_
          try simp only [Act.put, List.setIfInBounds_toArray, List.set_cons_succ, List.set_cons_zero]
          refine skipH (i := 7) (d := (some 26)) rfl rfl (by kernel_rfl) (by kernel_rfl) (by kernel_rfl) (fun _ _ _ h => h) (by kernel_rfl) (by assumption) ?_
          try simp only [Act.put, List.setIfInBounds_toArray, List.set_cons_succ, List.set_cons_zero]
          refine skipH (i := 8) (d := (some 27)) rfl rfl (by kernel_rfl) (by kernel_rfl) (by kernel_rfl) (fun _ _ _ h => h) (by kernel_rfl) (by assumption) ?_
          try simp only [Act.put, List.setIfInBounds_toArray, List.set_cons_succ, List.set_cons_zero]
          refine skipH (i := 9) (d := (some 28)) rfl rfl (by kernel_rfl) (by kernel_rfl) (by kernel_rfl) (fun _ _ _ h => h) (by kernel_rfl) (by assumption) ?_
          try simp only [Act.put, List.setIfInBounds_toArray, List.set_cons_succ, List.set_cons_zero]
          refine skipH (i := 10) (d := (some 29)) rfl rfl (by kernel_rfl) (by kernel_rfl) (by kernel_rfl) (fun _ _ _ h => h) (by kernel_rfl) (by assumption) ?_
          try simp only [Act.put, List.setIfInBounds_toArray, List.set_cons_succ, List.set_cons_zero]
          refine skipH (i := 11) (d := (some 30)) rfl rfl (by kernel_rfl) (by kernel_rfl) (by kernel_rfl) (fun _ _ _ h => h) (by kernel_rfl) (by assumption) ?_
          try simp only [Act.put, List.setIfInBounds_toArray, List.set_cons_succ, List.set_cons_zero]
          refine skipH (i := 12) (d := (some 31)) rfl rfl (by kernel_rfl) (by kernel_rfl) (by kernel_rfl) (fun _ _ _ h => h) (by kernel_rfl) (by assumption) ?_
          try simp only [Act.put, List.setIfInBounds_toArray, List.set_cons_succ, List.set_cons_zero]
          refine skipH (i := 13) (d := (some 32)) rfl rfl (by kernel_rfl) (by kernel_rfl) (by kernel_rfl) (fun _ _ _ h => h) (by kernel_rfl) (by assumption) ?_
          try simp only [Act.put, List.setIfInBounds_toArray, List.set_cons_succ, List.set_cons_zero]
          refine skipH (i := 14) (d := (some 33)) rfl rfl (by kernel_rfl) (by kernel_rfl) (by kernel_rfl) (fun _ _ _ h => h) (by kernel_rfl) (by assumption) ?_
          try simp only [Act.put, List.setIfInBounds_toArray, List.set_cons_succ, List.set_cons_zero]
          refine skipH (i := 15) (d := (some 34)) rfl rfl (by kernel_rfl) (by kernel_rfl) (by kernel_rfl) (fun _ _ _ h => h) (by kernel_rfl) (by assumption) ?_
          try simp only [Act.put, List.setIfInBounds_toArray, List.set_cons_succ, List.set_cons_zero]
          refine skipH (i := 16) (d := (some 35)) rfl rfl (by kernel_rfl) (by kernel_rfl) (by kernel_rfl) (fun _ _ _ h => h) (by kernel_rfl) (by assumption) ?_
          try simp only [Act.put, List.setIfInBounds_toArray, List.set_cons_succ, List.set_cons_zero]
          refine skipH (i := 17) (d := (some 36)) rfl rfl (by kernel_rfl) (by kernel_rfl) (by kernel_rfl) (fun _ _ _ h => h) (by kernel_rfl) (by assumption) ?_
          try simp only [Act.put, List.setIfInBounds_toArray, List.set_cons_succ, List.set_cons_zero]
          refine skipH (i := 18) (d := (some 37)) rfl rfl (by kernel_rfl) (by kernel_rfl) (by kernel_rfl) (fun _ _ _ h => h) (by kernel_rfl) (by assumption) ?_
          try simp only [Act.put, List.setIfInBounds_toArray, List.set_cons_succ, List.set_cons_zero]
          refine skipH (i := 19) (d := (some 38)) rfl rfl (by kernel_rfl) (by kernel_rfl) (by kernel_rfl) (fun _ _ _ h => h) (by kernel_rfl) (by assumption) ?_
          try simp only [Act.put, List.setIfInBounds_toArray, List.set_cons_succ, List.set_cons_zero]
          refine skipH (i := 20) (d := (some 39)) rfl rfl (by kernel_rfl) (by kernel_rfl) (by kernel_rfl) (fun _ _ _ h => h) (by kernel_rfl) (by assumption) ?_
          try simp only [Act.put, List.setIfInBounds_toArray, List.set_cons_succ, List.set_cons_zero]
          refine takeH (i := 21) (d := (some 40)) (v := ?_) rfl rfl (by kernel_rfl) (by kernel_rfl) (by kernel_rfl) (fun _ _ _ h => h) (by kernel_rfl) ?_ (by assumption) ?_
          rotate_left
          · (intro w hSw; (try dsimp only at hSw); go_simp; try with_reducible rfl)
          try simp only [Act.put, List.setIfInBounds_toArray, List.set_cons_succ, List.set_cons_zero]
          refine takeH (i := 22) (d := (some 41)) (v := ?_) rfl rfl (by kernel_rfl) (by kernel_rfl) (by kernel_rfl) (fun _ _ _ h => h) (by kernel_rfl) ?_ (by assumption) ?_
          rotate_left
          · (intro w hSw; (try dsimp only at hSw); go_simp; try with_reducible rfl)
          try simp only [Act.put, List.setIfInBounds_toArray, List.set_cons_succ, List.set_cons_zero]
          refine skipH (i := 23) (d := (some 42)) rfl rfl (by kernel_rfl) (by kernel_rfl) (by kernel_rfl) (fun _ _ _ h => h) (by kernel_rfl) (by assumption) ?_
          try simp only [Act.put, List.setIfInBounds_toArray, List.set_cons_succ, List.set_cons_zero]
          refine skipH (i := 24) (d := (some 43)) rfl rfl (by kernel_rfl) (by kernel_rfl) (by kernel_rfl) (fun _ _ _ h => h) (by kernel_rfl) (by assumption) ?_
          try simp only [Act.put, List.setIfInBounds_toArray, List.set_cons_succ, List.set_cons_zero]
          refine skipH (i := 25) (d := (some 44)) rfl rfl (by kernel_rfl) (by kernel_rfl) (by kernel_rfl) (fun _ _ _ h => h) (by kernel_rfl) (by assumption) ?_
          try simp only [Act.put, List.setIfInBounds_toArray, List.set_cons_succ, List.set_cons_zero]
          refine skipH (i := 26) (d := (some 45)) rfl rfl (by kernel_rfl) (by kernel_rfl) (by kernel_rfl) (fun _ _ _ h => h) (by kernel_rfl) (by assumption) ?_
          try simp only [Act.put, List.setIfInBounds_toArray, List.set_cons_succ, List.set_cons_zero]
          refine skipH (i := 27) (d := (some 46)) rfl rfl (by kernel_rfl) (by kernel_rfl) (by kernel_rfl) (fun _ _ _ h => h) (by kernel_rfl) (by assumption) ?_
          try simp only [Act.put, List.setIfInBounds_toArray, List.set_cons_succ, List.set_cons_zero]
          refine skipH (i := 28) (d := (some 47)) rfl rfl (by kernel_rfl) (by kernel_rfl) (by kernel_rfl) (fun _ _ _ h => h) (by kernel_rfl) (by assumption) ?_
          try simp only [Act.put, List.setIfInBounds_toArray, List.set_cons_succ, List.set_cons_zero]
          refine skipH (i := 29) (d := (some 48)) rfl rfl (by kernel_rfl) (by kernel_rfl) (by kernel_rfl) (fun _ _ _ h => h) (by kernel_rfl) (by assumption) ?_
          try simp only [Act.put, List.setIfInBounds_toArray, List.set_cons_succ, List.set_cons_zero]
          refine skipH (i := 30) (d := (some 49)) rfl rfl (by kernel_rfl) (by kernel_rfl) (by kernel_rfl) (fun _ _ _ h => h) (by kernel_rfl) (by assumption) ?_
          try simp only [Act.put, List.setIfInBounds_toArray, List.set_cons_succ, List.set_cons_zero]
          refine takeH (i := 31) (d := (some 50)) (v := ?_) rfl rfl (by kernel_rfl) (by kernel_rfl) (by kernel_rfl) (fun _ _ _ h => h) (by kernel_rfl) ?_ (by assumption) ?_
          rotate_left
          · (intro w hSw; (try dsimp only at hSw); go_simp; try with_reducible rfl)
          try simp only [Act.put, List.setIfInBounds_toArray, List.set_cons_succ, List.set_cons_zero]
          refine wpAnyH_done (by kernel_rfl) ?_ _
          have hB3 := hk3.1
          clear hk3 hF
          try clear hHeld
          go_wp2_with fail
          go_ret
          exact ⟨ret_bool (by rw [HL.out]; exact HN.out.symm), hBW.trans (hB3.mono hBW.size)⟩
        | true =>
          have HF : Hid ((enOkB (esAt l k).e && (decide ((esAt l k).e.til = 0) || decide (n < (esAt l k).e.til))) = true) := hF
          rcases Nat.eq_zero_or_pos k with h0 | h0
          · subst h0
            have hPl : esPlc l (esAt l 0).e.key = ((0 : Nat) : Int) := esNo_asc hlt HTO.out (.inl rfl)
            have HN : Hid (bsTo n (l.map Row.e) (0 + 1)) := bsTo_step HTO.out (by unfold bsRowOk; rw [HM.out, HF.out]; rfl)
            refine wp_region_held_drew (S := (fun w' => Below W.heap.size W w' ∧ w'.cell? ⟨w.heap.size, 0, none⟩ = some (.slice (some ⟨b, off, none⟩) l.length cap) ∧ w'.cell? ⟨w.heap.size, 1, none⟩ = some (.int .i64 12) ∧ w'.cell? ⟨w.heap.size, 2, none⟩ = some (.func (.func 47) #[] #[]) ∧ w'.cell? ⟨w.heap.size, 3, none⟩ = some (.func (.func 48) #[] #[]) ∧ w'.cell? ⟨w.heap.size, 4, none⟩ = some (.func (.func 44) #[] #[.pointer (some ⟨B, 0, none⟩)]) ∧ w'.cell? ⟨wr.heap.size, 0, none⟩ = some (.string (esAt l 0).e.key) ∧ w'.cell? ⟨wr.heap.size, 1, none⟩ = some (.int .i64 (esAt l 0).e.til) ∧ w'.cell? ⟨wr.heap.size, 2, none⟩ = some (.int .i64 (esAt l 0).e.kind) ∧ w'.cell? ⟨wr.heap.size, 3, none⟩ = some (.string (esAt l 0).e.text) ∧ w'.cell? ⟨wr.heap.size, 4, none⟩ = some (.slice (esAt l 0).al (esAt l 0).e.list.length (esAt l 0).cl) ∧ w'.cell? ⟨wr.heap.size, 5, none⟩ = some (.slice (esAt l 0).as_ (esAt l 0).e.scores.length (esAt l 0).cs) ∧ w'.cell? ⟨wr.heap.size, 6, none⟩ = some (.slice (esAt l 0).af (esAt l 0).e.fields.length (esAt l 0).cf))) (by kernel_rfl) (by exact HS.out _ (Below.refl _ _).drew) (fun hHeld => ?_)
            refine takeH (i := 0) (d := (some 19)) (v := ?_) rfl rfl (by kernel_rfl) (by kernel_rfl) (by kernel_rfl) (fun _ _ _ h => h) (by kernel_rfl) ?_ (by assumption) ?_
            rotate_left
            · (intro w hSw; (try dsimp only at hSw); go_simp; try with_reducible rfl)
            try simp only [Act.put, List.setIfInBounds_toArray, List.set_cons_succ, List.set_cons_zero]
            refine takeH (i := 1) (d := (some 20)) (v := ?_) rfl rfl (by kernel_rfl) (by kernel_rfl) (by kernel_rfl) (fun _ _ _ h => h) (by kernel_rfl) ?_ (by assumption) ?_
            rotate_left
            · (intro w hSw; (try dsimp only at hSw); go_simp; try with_reducible rfl)
            try simp only [Act.put, List.setIfInBounds_toArray, List.set_cons_succ, List.set_cons_zero]
            refine takeH (i := 2) (d := (some 21)) (v := ?_) rfl rfl (by kernel_rfl) (by kernel_rfl) (by kernel_rfl) (fun _ _ _ h => h) (by kernel_rfl) ?_ (by assumption) ?_
            rotate_left
            · (intro w hSw; (try dsimp only at hSw); go_simp; try with_reducible rfl)
            try simp only [Act.put, List.setIfInBounds_toArray, List.set_cons_succ, List.set_cons_zero]
            refine wpAnyH_ready (rs := [3]) (by kernel_rfl) (by simp) ?_
            refine AllReadyH.cons rfl (fun K hK => ?_) AllReadyH.nil
            go_simp
            refine (entryFits_any (esAt l 0).e _ _ _ _ _ _ B n u _ (HR.out _ hHeld.1) hss (HB.out _ hHeld.1)).mono ?_; rintro x w3 ⟨he, hb3⟩; rw [hF] at he; subst he; have hk3 := HS.out _ (hHeld.1.trans (hb3.mono hHeld.1.size)); clear hb3
            refine hK.out _ _ ?_ (fun hHeld => ?_)
            · exact hk3
            clear hK K
            try simp only [Act.put, List.setIfInBounds_toArray, List.set_cons_succ, List.set_cons_zero]
            refine takeH (i := 4) (d := (some 23)) (v := ?_) rfl rfl (by kernel_rfl) (by kernel_rfl) (by kernel_rfl) (fun _ _ _ h => h) (by kernel_rfl) ?_ (by assumption) ?_
            rotate_left
            · (intro w hSw; (try dsimp only at hSw); go_simp; try with_reducible rfl)
            try simp only [Act.put, List.setIfInBounds_toArray, List.set_cons_succ, List.set_cons_zero]
            refine takeH (i := 5) (d := (some 24)) (v := ?_) rfl rfl (by kernel_rfl) (by kernel_rfl) (by kernel_rfl) (fun _ _ _ h => h) (by kernel_rfl) ?_ (by assumption) ?_
            rotate_left
            · (intro w hSw; (try dsimp only at hSw); go_simp; try with_reducible rfl)
            try simp only [Act.put, List.setIfInBounds_toArray, List.set_cons_succ, List.set_cons_zero]
            refine takeH (i := 6) (d := (some 25)) (v := ?_) rfl rfl (by kernel_rfl) (by kernel_rfl) (by kernel_rfl) (fun _ _ _ h => h) (by kernel_rfl) ?_ (by assumption) ?_
            rotate_left
            · (intro w hSw; (try dsimp only at hSw); go_simp; try with_reducible rfl)
            try simp only [Act.put, List.setIfInBounds_toArray, List.set_cons_succ, List.set_cons_zero]
            refine takeH (i := 7) (d := (some 26)) (v := ?_) rfl rfl (by kernel_rfl) (by kernel_rfl) (by kernel_rfl) (fun _ _ _ h => h) (by kernel_rfl) ?_ (by assumption) ?_
            rotate_left
            · (intro w hSw; (try dsimp only at hSw); go_simp; try with_reducible rfl)
            try simp only [Act.put, List.setIfInBounds_toArray, List.set_cons_succ, List.set_cons_zero]
            refine takeH (i := 8) (d := (some 27)) (v := ?_) rfl rfl (by kernel_rfl) (by kernel_rfl) (by kernel_rfl) (fun _ _ _ h => h) (by kernel_rfl) ?_ (by assumption) ?_
            rotate_left
            · (intro w hSw; (try dsimp only at hSw); go_simp; try with_reducible rfl)
            try simp only [Act.put, List.setIfInBounds_toArray, List.set_cons_succ, List.set_cons_zero]
            refine skipH (i := 9) (d := (some 28)) rfl rfl (by kernel_rfl) (by kernel_rfl) (by kernel_rfl) (fun _ _ _ h => h) (by kernel_rfl) (by assumption) ?_
            try simp only [Act.put, List.setIfInBounds_toArray, List.set_cons_succ, List.set_cons_zero]
            refine skipH (i := 10) (d := (some 29)) rfl rfl (by kernel_rfl) (by kernel_rfl) (by kernel_rfl) (fun _ _ _ h => h) (by kernel_rfl) (by assumption) ?_
            try simp only [Act.put, List.setIfInBounds_toArray, List.set_cons_succ, List.set_cons_zero]
            refine skipH (i := 11) (d := (some 30)) rfl rfl (by kernel_rfl) (by kernel_rfl) (by kernel_rfl) (fun _ _ _ h => h) (by kernel_rfl) (by assumption) ?_
            try simp only [Act.put, List.setIfInBounds_toArray, List.set_cons_succ, List.set_cons_zero]
            refine skipH (i := 12) (d := (some 31)) rfl rfl (by kernel_rfl) (by kernel_rfl) (by kernel_rfl) (fun _ _ _ h => h) (by kernel_rfl) (by assumption) ?_
            try simp only [Act.put, List.setIfInBounds_toArray, List.set_cons_succ, List.set_cons_zero]
            refine skipH (i := 13) (d := (some 32)) rfl rfl (by kernel_rfl) (by kernel_rfl) (by kernel_rfl) (fun _ _ _ h => h) (by kernel_rfl) (by assumption) ?_
            try simp only [Act.put, List.setIfInBounds_toArray, List.set_cons_succ, List.set_cons_zero]
            refine skipH (i := 14) (d := (some 33)) rfl rfl (by kernel_rfl) (by kernel_rfl) (by kernel_rfl) (fun _ _ _ h => h) (by kernel_rfl) (by assumption) ?_
            try simp only [Act.put, List.setIfInBounds_toArray, List.set_cons_succ, List.set_cons_zero]
            refine skipH (i := 15) (d := (some 34)) rfl rfl (by kernel_rfl) (by kernel_rfl) (by kernel_rfl) (fun _ _ _ h => h) (by kernel_rfl) (by assumption) ?_
            try simp only [Act.put, List.setIfInBounds_toArray, List.set_cons_succ, List.set_cons_zero]
            refine skipH (i := 16) (d := (some 35)) rfl rfl (by kernel_rfl) (by kernel_rfl) (by kernel_rfl) (fun _ _ _ h => h) (by kernel_rfl) (by assumption) ?_
            try simp only [Act.put, List.setIfInBounds_toArray, List.set_cons_succ, List.set_cons_zero]
            refine skipH (i := 17) (d := (some 36)) rfl rfl (by kernel_rfl) (by kernel_rfl) (by kernel_rfl) (fun _ _ _ h => h) (by kernel_rfl) (by assumption) ?_
            try simp only [Act.put, List.setIfInBounds_toArray, List.set_cons_succ, List.set_cons_zero]
            refine skipH (i := 18) (d := (some 37)) rfl rfl (by kernel_rfl) (by kernel_rfl) (by kernel_rfl) (fun _ _ _ h => h) (by kernel_rfl) (by assumption) ?_
            try simp only [Act.put, List.setIfInBounds_toArray, List.set_cons_succ, List.set_cons_zero]
            refine skipH (i := 19) (d := (some 38)) rfl rfl (by kernel_rfl) (by kernel_rfl) (by kernel_rfl) (fun _ _ _ h => h) (by kernel_rfl) (by assumption) ?_
            try simp only [Act.put, List.setIfInBounds_toArray, List.set_cons_succ, List.set_cons_zero]
            refine takeH (i := 20) (d := (some 39)) (v := ?_) rfl rfl (by kernel_rfl) (by kernel_rfl) (by kernel_rfl) (fun _ _ _ h => h) (by kernel_rfl) ?_ (by assumption) ?_
            rotate_left
            · (intro w hSw; (try dsimp only at hSw); go_simp; try with_reducible rfl)
            try simp only [Act.put, List.setIfInBounds_toArray, List.set_cons_succ, List.set_cons_zero]
            refine takeH (i := 21) (d := (some 40)) (v := ?_) rfl rfl (by kernel_rfl) (by kernel_rfl) (by kernel_rfl) (fun _ _ _ h => h) (by kernel_rfl) ?_ (by assumption) ?_
            rotate_left
            · (intro w hSw; (try dsimp only at hSw); go_simp; try with_reducible rfl)
            try simp only [Act.put, List.setIfInBounds_toArray, List.set_cons_succ, List.set_cons_zero]
            refine takeH (i := 22) (d := (some 41)) (v := ?_) rfl rfl (by kernel_rfl) (by kernel_rfl) (by kernel_rfl) (fun _ _ _ h => h) (by kernel_rfl) ?_ (by assumption) ?_
            rotate_left
            · (intro w hSw; (try dsimp only at hSw); go_simp; try with_reducible rfl)
            try simp only [Act.put, List.setIfInBounds_toArray, List.set_cons_succ, List.set_cons_zero]
            refine takeH (i := 23) (d := (some 42)) (v := ?_) rfl rfl (by kernel_rfl) (by kernel_rfl) (by kernel_rfl) (fun _ _ _ h => h) (by kernel_rfl) ?_ (by assumption) ?_
            rotate_left
            · (intro w hSw; (try dsimp only at hSw); go_simp; try with_reducible rfl)
            try simp only [Act.put, List.setIfInBounds_toArray, List.set_cons_succ, List.set_cons_zero]
            refine takeH (i := 24) (d := (some 43)) (v := ?_) rfl rfl (by kernel_rfl) (by kernel_rfl) (by kernel_rfl) (fun _ _ _ h => h) (by kernel_rfl) ?_ (by assumption) ?_
            rotate_left
            · (intro w hSw; (try dsimp only at hSw); go_simp; try with_reducible rfl)
            try simp only [Act.put, List.setIfInBounds_toArray, List.set_cons_succ, List.set_cons_zero]
            refine takeH (i := 25) (d := (some 44)) (v := ?_) rfl rfl (by kernel_rfl) (by kernel_rfl) (by kernel_rfl) (fun _ _ _ h => h) (by kernel_rfl) ?_ (by assumption) ?_
            rotate_left
            · (intro w hSw; (try dsimp only at hSw); go_simp; try with_reducible rfl)
            try simp only [Act.put, List.setIfInBounds_toArray, List.set_cons_succ, List.set_cons_zero]
            refine takeH (i := 26) (d := (some 45)) (v := ?_) rfl rfl (by kernel_rfl) (by kernel_rfl) (by kernel_rfl) (fun _ _ _ h => h) (by kernel_rfl) ?_ (by assumption) ?_
            rotate_left
            · (intro w hSw; (try dsimp only at hSw); go_simp; try with_reducible rfl)
            try simp only [Act.put, List.setIfInBounds_toArray, List.set_cons_succ, List.set_cons_zero]
            refine takeH (i := 29) (d := (some 48)) (v := ?_) rfl rfl (by kernel_rfl) (by kernel_rfl) (by kernel_rfl) (fun _ _ _ h => h) (by kernel_rfl) ?_ (by assumption) ?_
            rotate_left
            · (intro w hSw; (try dsimp only at hSw); go_simp; try with_reducible rfl)
            try simp only [Act.put, List.setIfInBounds_toArray, List.set_cons_succ, List.set_cons_zero]
            refine wpAnyH_ready (rs := [27]) (by kernel_rfl) (by simp) ?_
            refine AllReadyH.cons rfl (fun K hK => ?_) AllReadyH.nil
            go_simp
            refine (entryKey_any (esAt l 0).e _ _ _ _ _ _ _).mono ?_; rintro x w3 ⟨rfl, hb3⟩; have hk3 := HS.out _ (hHeld.1.trans (hb3.mono hHeld.1.size)); clear hb3
            refine hK.out _ _ ?_ (fun hHeld => ?_)
            · exact hk3
            clear hK K
            try simp only [Act.put, List.setIfInBounds_toArray, List.set_cons_succ, List.set_cons_zero]
            refine wpAnyH_ready (rs := [28]) (by kernel_rfl) (by simp) ?_
            refine AllReadyH.cons rfl (fun K hK => ?_) AllReadyH.nil
            go_simp
            refine (esPlace_any _ l (esAt l 0).e.key B _ (HES.out _ hHeld.1) hlen).mono ?_; rintro x w3 ⟨he, hb3⟩; rw [hPl] at he; subst he; have hk3 := HS.out _ (hHeld.1.trans (hb3.mono hHeld.1.size)); clear hb3
            refine hK.out _ _ ?_ (fun hHeld => ?_)
            · exact hk3
            clear hK K
            try simp only [Act.put, List.setIfInBounds_toArray, List.set_cons_succ, List.set_cons_zero]
            refine takeH (i := 30) (d := (some 49)) (v := ?_) rfl rfl (by kernel_rfl) (by kernel_rfl) (by kernel_rfl) (fun _ _ _ h => h) (by kernel_rfl) ?_ (by assumption) ?_
            rotate_left
            · (intro w hSw; (try dsimp only at hSw); go_simp; try with_reducible rfl)
            try simp only [Act.put, List.setIfInBounds_toArray, List.set_cons_succ, List.set_cons_zero]
            refine takeH (i := 31) (d := (some 50)) (v := ?_) rfl rfl (by kernel_rfl) (by kernel_rfl) (by kernel_rfl) (fun _ _ _ h => h) (by kernel_rfl) ?_ (by assumption) ?_
            rotate_left
            · (intro w hSw; (try dsimp only at hSw); go_simp; try with_reducible rfl)
            try simp only [Act.put, List.setIfInBounds_toArray, List.set_cons_succ, List.set_cons_zero]
            refine wpAnyH_done (by kernel_rfl) ?_ _
            have hB3 := hk3.1
            have HQ3 : Hid _ := HQ.out _ hB3
            clear hk3 hF hPl
            try clear hHeld
            go_wp2_with fail
            go_roundw
            case rel => exact ⟨0 + 1, hlt, by go_num, HN.out, HQ3, hBW.trans (hB3.mono hBW.size)⟩
            case measure => simp [intOf]; omega
          · obtain ⟨j, rfl⟩ : ∃ j, k = j + 1 := ⟨k - 1, by omega⟩
            have hj1 : (0 : Int) < (j : Int) + 1 := by omega
            have hj2 : (j : Int) < (l.length : Int) := by omega
            have hj3 : (j : Int) + 1 < (l.length : Int) := by omega
            have hj4 : (0 : Int) ≤ (j : Int) + 1 := by omega
            have hwr : IntKind.i64.wrap (j : Int) = (j : Int) := wrap_id64 (by omega) (by omega)
            have HMJ : Hid (enAt (l.map Row.e) j = (esAt l j).e) := enAt_map l j (by omega)
            have HS2 : Hid (∀ w', Below W.heap.size W w' → Below W.heap.size W w' ∧ w'.cell? ⟨w.heap.size, 0, none⟩ = some (.slice (some ⟨b, off, none⟩) l.length cap) ∧ w'.cell? ⟨w.heap.size, 1, none⟩ = some (.int .i64 12) ∧ w'.cell? ⟨w.heap.size, 2, none⟩ = some (.func (.func 47) #[] #[]) ∧ w'.cell? ⟨w.heap.size, 3, none⟩ = some (.func (.func 48) #[] #[]) ∧ w'.cell? ⟨w.heap.size, 4, none⟩ = some (.func (.func 44) #[] #[.pointer (some ⟨B, 0, none⟩)]) ∧ w'.cell? ⟨wr.heap.size, 0, none⟩ = some (.string (esAt l (j + 1)).e.key) ∧ w'.cell? ⟨wr.heap.size, 1, none⟩ = some (.int .i64 (esAt l (j + 1)).e.til) ∧ w'.cell? ⟨wr.heap.size, 2, none⟩ = some (.int .i64 (esAt l (j + 1)).e.kind) ∧ w'.cell? ⟨wr.heap.size, 3, none⟩ = some (.string (esAt l (j + 1)).e.text) ∧ w'.cell? ⟨wr.heap.size, 4, none⟩ = some (.slice (esAt l (j + 1)).al (esAt l (j + 1)).e.list.length (esAt l (j + 1)).cl) ∧ w'.cell? ⟨wr.heap.size, 5, none⟩ = some (.slice (esAt l (j + 1)).as_ (esAt l (j + 1)).e.scores.length (esAt l (j + 1)).cs) ∧ w'.cell? ⟨wr.heap.size, 6, none⟩ = some (.slice (esAt l (j + 1)).af (esAt l (j + 1)).e.fields.length (esAt l (j + 1)).cf) ∧ w'.cell? ⟨b, off + j * 7, none⟩ = some (.string (esAt l j).e.key) ∧ w'.cell? ⟨b, off + j * 7 + 1, none⟩ = some (.int .i64 (esAt l j).e.til) ∧ w'.cell? ⟨b, off + j * 7 + 2, none⟩ = some (.int .i64 (esAt l j).e.kind) ∧ w'.cell? ⟨b, off + j * 7 + 3, none⟩ = some (.string (esAt l j).e.text) ∧ w'.cell? ⟨b, off + j * 7 + 4, none⟩ = some (.slice (esAt l j).al (esAt l j).e.list.length (esAt l j).cl) ∧ w'.cell? ⟨b, off + j * 7 + 5, none⟩ = some (.slice (esAt l j).as_ (esAt l j).e.scores.length (esAt l j).cs) ∧ w'.cell? ⟨b, off + j * 7 + 6, none⟩ = some (.slice (esAt l j).af (esAt l j).e.fields.length (esAt l j).cf)) := fun w' h => by
              obtain ⟨z0, z1, z2, z3, z4, z5, z6⟩ := HPW.out w' h j (by omega)
              obtain ⟨y0, y1, y2, y3, y4, y5, y6, y7, y8, y9, ya, yb, yc⟩ := HS.out w' h
              exact ⟨y0, y1, y2, y3, y4, y5, y6, y7, y8, y9, ya, yb, yc, z0, z1, z2, z3, z4, z5, z6⟩
            cases hA : Op.bytesLess (esAt l j).e.key.toList (esAt l (j + 1)).e.key.toList with
            | false =>
              have HN : Hid (bsAll n (l.map Row.e) = false) := bsTo_not (by simpa using hlt) (by unfold bsRowOk; rw [Nat.add_sub_cancel, HM.out, HMJ.out, hA]; simp)
              refine wp_region_held_drew (S := (fun w' => Below W.heap.size W w' ∧ w'.cell? ⟨w.heap.size, 0, none⟩ = some (.slice (some ⟨b, off, none⟩) l.length cap) ∧ w'.cell? ⟨w.heap.size, 1, none⟩ = some (.int .i64 12) ∧ w'.cell? ⟨w.heap.size, 2, none⟩ = some (.func (.func 47) #[] #[]) ∧ w'.cell? ⟨w.heap.size, 3, none⟩ = some (.func (.func 48) #[] #[]) ∧ w'.cell? ⟨w.heap.size, 4, none⟩ = some (.func (.func 44) #[] #[.pointer (some ⟨B, 0, none⟩)]) ∧ w'.cell? ⟨wr.heap.size, 0, none⟩ = some (.string (esAt l (j + 1)).e.key) ∧ w'.cell? ⟨wr.heap.size, 1, none⟩ = some (.int .i64 (esAt l (j + 1)).e.til) ∧ w'.cell? ⟨wr.heap.size, 2, none⟩ = some (.int .i64 (esAt l (j + 1)).e.kind) ∧ w'.cell? ⟨wr.heap.size, 3, none⟩ = some (.string (esAt l (j + 1)).e.text) ∧ w'.cell? ⟨wr.heap.size, 4, none⟩ = some (.slice (esAt l (j + 1)).al (esAt l (j + 1)).e.list.length (esAt l (j + 1)).cl) ∧ w'.cell? ⟨wr.heap.size, 5, none⟩ = some (.slice (esAt l (j + 1)).as_ (esAt l (j + 1)).e.scores.length (esAt l (j + 1)).cs) ∧ w'.cell? ⟨wr.heap.size, 6, none⟩ = some (.slice (esAt l (j + 1)).af (esAt l (j + 1)).e.fields.length (esAt l (j + 1)).cf) ∧ w'.cell? ⟨b, off + j * 7, none⟩ = some (.string (esAt l j).e.key) ∧ w'.cell? ⟨b, off + j * 7 + 1, none⟩ = some (.int .i64 (esAt l j).e.til) ∧ w'.cell? ⟨b, off + j * 7 + 2, none⟩ = some (.int .i64 (esAt l j).e.kind) ∧ w'.cell? ⟨b, off + j * 7 + 3, none⟩ = some (.string (esAt l j).e.text) ∧ w'.cell? ⟨b, off + j * 7 + 4, none⟩ = some (.slice (esAt l j).al (esAt l j).e.list.length (esAt l j).cl) ∧ w'.cell? ⟨b, off + j * 7 + 5, none⟩ = some (.slice (esAt l j).as_ (esAt l j).e.scores.length (esAt l j).cs) ∧ w'.cell? ⟨b, off + j * 7 + 6, none⟩ = some (.slice (esAt l j).af (esAt l j).e.fields.length (esAt l j).cf))) (by kernel_rfl) (by exact HS2.out _ (Below.refl _ _).drew) (fun hHeld => ?_)
              refine takeH (i := 0) (d := (some 19)) (v := ?_) rfl rfl (by kernel_rfl) (by kernel_rfl) (by kernel_rfl) (fun _ _ _ h => h) (by kernel_rfl) ?_ (by assumption) ?_
              rotate_left
              · (intro w hSw; (try dsimp only at hSw); go_simp; try with_reducible rfl)
              try simp only [Act.put, List.setIfInBounds_toArray, List.set_cons_succ, List.set_cons_zero]
              refine takeH (i := 1) (d := (some 20)) (v := ?_) rfl rfl (by kernel_rfl) (by kernel_rfl) (by kernel_rfl) (fun _ _ _ h => h) (by kernel_rfl) ?_ (by assumption) ?_
              rotate_left
              · (intro w hSw; (try dsimp only at hSw); go_simp; try with_reducible rfl)
              try simp only [Act.put, List.setIfInBounds_toArray, List.set_cons_succ, List.set_cons_zero]
              refine takeH (i := 2) (d := (some 21)) (v := ?_) rfl rfl (by kernel_rfl) (by kernel_rfl) (by kernel_rfl) (fun _ _ _ h => h) (by kernel_rfl) ?_ (by assumption) ?_
              rotate_left
              · (intro w hSw; (try dsimp only at hSw); go_simp; try with_reducible rfl)
              try simp only [Act.put, List.setIfInBounds_toArray, List.set_cons_succ, List.set_cons_zero]
              refine wpAnyH_ready (rs := [3]) (by kernel_rfl) (by simp) ?_
              refine AllReadyH.cons rfl (fun K hK => ?_) AllReadyH.nil
              go_simp
              refine (entryFits_any (esAt l (j + 1)).e _ _ _ _ _ _ B n u _ (HR.out _ hHeld.1) hss (HB.out _ hHeld.1)).mono ?_; rintro x w3 ⟨he, hb3⟩; rw [hF] at he; subst he; have hk3 := HS2.out _ (hHeld.1.trans (hb3.mono hHeld.1.size)); clear hb3
              refine hK.out _ _ ?_ (fun hHeld => ?_)
              · exact hk3
              clear hK K
              try simp only [Act.put, List.setIfInBounds_toArray, List.set_cons_succ, List.set_cons_zero]
              refine takeH (i := 4) (d := (some 23)) (v := ?_) rfl rfl (by kernel_rfl) (by kernel_rfl) (by kernel_rfl) (fun _ _ _ h => h) (by kernel_rfl) ?_ (by assumption) ?_
              rotate_left
              · (intro w hSw; (try dsimp only at hSw); go_simp; try with_reducible rfl)
              try simp only [Act.put, List.setIfInBounds_toArray, List.set_cons_succ, List.set_cons_zero]
              refine takeH (i := 5) (d := (some 24)) (v := ?_) rfl rfl (by kernel_rfl) (by kernel_rfl) (by kernel_rfl) (fun _ _ _ h => h) (by kernel_rfl) ?_ (by assumption) ?_
              rotate_left
              · (intro w hSw; (try dsimp only at hSw); go_simp; try with_reducible rfl)
              try simp only [Act.put, List.setIfInBounds_toArray, List.set_cons_succ, List.set_cons_zero]
              refine takeH (i := 6) (d := (some 25)) (v := ?_) rfl rfl (by kernel_rfl) (by kernel_rfl) (by kernel_rfl) (fun _ _ _ h => h) (by kernel_rfl) ?_ (by assumption) ?_
              rotate_left
              · (intro w hSw; (try dsimp only at hSw); go_simp; try with_reducible rfl)
              try simp only [Act.put, List.setIfInBounds_toArray, List.set_cons_succ, List.set_cons_zero]
              refine takeH (i := 7) (d := (some 26)) (v := ?_) rfl rfl (by kernel_rfl) (by kernel_rfl) (by kernel_rfl) (fun _ _ _ h => h) (by kernel_rfl) ?_ (by assumption) ?_
              rotate_left
              · (intro w hSw; (try dsimp only at hSw); go_simp; try with_reducible rfl)
              try simp only [Act.put, List.setIfInBounds_toArray, List.set_cons_succ, List.set_cons_zero]
              refine takeH (i := 8) (d := (some 27)) (v := ?_) rfl rfl (by kernel_rfl) (by kernel_rfl) (by kernel_rfl) (fun _ _ _ h => h) (by kernel_rfl) ?_ (by assumption) ?_
              rotate_left
              · (intro w hSw; (try dsimp only at hSw); go_simp; try with_reducible rfl)
              try simp only [Act.put, List.setIfInBounds_toArray, List.set_cons_succ, List.set_cons_zero]
              refine takeH (i := 9) (d := (some 28)) (v := ?_) rfl rfl (by kernel_rfl) (by kernel_rfl) (by kernel_rfl) (fun _ _ _ h => h) (by kernel_rfl) ?_ (by assumption) ?_
              rotate_left
              · (intro w hSw; (try dsimp only at hSw); go_simp; try with_reducible rfl)
              try simp only [Act.put, List.setIfInBounds_toArray, List.set_cons_succ, List.set_cons_zero]
              refine takeH (i := 10) (d := (some 29)) (v := ?_) rfl rfl (by kernel_rfl) (by kernel_rfl) (by kernel_rfl) (fun _ _ _ h => h) (by kernel_rfl) ?_ (by assumption) ?_
              rotate_left
              · (intro w hSw; (try dsimp only at hSw); go_simp; try with_reducible rfl)
              try simp only [Act.put, List.setIfInBounds_toArray, List.set_cons_succ, List.set_cons_zero]
              refine takeH (i := 11) (d := (some 30)) (v := ?_) rfl rfl (by kernel_rfl) (by kernel_rfl) (by kernel_rfl) (fun _ _ _ h => h) (by kernel_rfl) ?_ (by assumption) ?_
              rotate_left
              · (intro w hSw; (try dsimp only at hSw); go_simp; try with_reducible rfl)
              try simp only [Act.put, List.setIfInBounds_toArray, List.set_cons_succ, List.set_cons_zero]
              refine takeH (i := 12) (d := (some 31)) (v := ?_) rfl rfl (by kernel_rfl) (by kernel_rfl) (by kernel_rfl) (fun _ _ _ h => h) (by kernel_rfl) ?_ (by assumption) ?_
              rotate_left
              · (intro w hSw; (try dsimp only at hSw); go_simp; try with_reducible rfl)
              try simp only [Act.put, List.setIfInBounds_toArray, List.set_cons_succ, List.set_cons_zero]
              refine takeH (i := 13) (d := (some 32)) (v := ?_) rfl rfl (by kernel_rfl) (by kernel_rfl) (by kernel_rfl) (fun _ _ _ h => h) (by kernel_rfl) ?_ (by assumption) ?_
              rotate_left
              · (intro w hSw; (try dsimp only at hSw); go_simp; try with_reducible rfl)
              try simp only [Act.put, List.setIfInBounds_toArray, List.set_cons_succ, List.set_cons_zero]
              refine takeH (i := 14) (d := (some 33)) (v := ?_) rfl rfl (by kernel_rfl) (by kernel_rfl) (by kernel_rfl) (fun _ _ _ h => h) (by kernel_rfl) ?_ (by assumption) ?_
              rotate_left
              · (intro w hSw; (try dsimp only at hSw); go_simp; try with_reducible rfl)
              try simp only [Act.put, List.setIfInBounds_toArray, List.set_cons_succ, List.set_cons_zero]
              refine takeH (i := 15) (d := (some 34)) (v := ?_) rfl rfl (by kernel_rfl) (by kernel_rfl) (by kernel_rfl) (fun _ _ _ h => h) (by kernel_rfl) ?_ (by assumption) ?_
              rotate_left
              · (intro w hSw; (try dsimp only at hSw); go_simp; try with_reducible rfl)
              try simp only [Act.put, List.setIfInBounds_toArray, List.set_cons_succ, List.set_cons_zero]
              refine takeH (i := 16) (d := (some 35)) (v := ?_) rfl rfl (by kernel_rfl) (by kernel_rfl) (by kernel_rfl) (fun _ _ _ h => h) (by kernel_rfl) ?_ (by assumption) ?_
              rotate_left
              · (intro w hSw; (try dsimp only at hSw); go_simp; try with_reducible rfl)
              try simp only [Act.put, List.setIfInBounds_toArray, List.set_cons_succ, List.set_cons_zero]
              refine takeH (i := 17) (d := (some 36)) (v := ?_) rfl rfl (by kernel_rfl) (by kernel_rfl) (by kernel_rfl) (fun _ _ _ h => h) (by kernel_rfl) ?_ (by assumption) ?_
              rotate_left
              · (intro w hSw; (try dsimp only at hSw); go_simp; try with_reducible rfl)
              try simp only [Act.put, List.setIfInBounds_toArray, List.set_cons_succ, List.set_cons_zero]
              refine wpAnyH_ready (rs := [18]) (by kernel_rfl) (by simp) ?_
              refine AllReadyH.cons rfl (fun K hK => ?_) AllReadyH.nil
              go_simp
              refine (entryAhead_any (esAt l j).e (esAt l (j + 1)).e _ _ _ _ _ _ _ _ _ _ _ _ _).mono ?_; rintro x w3 ⟨he, hb3⟩; rw [hA] at he; subst he; have hk3 := HS2.out _ (hHeld.1.trans (hb3.mono hHeld.1.size)); clear hb3
              refine hK.out _ _ ?_ (fun hHeld => ?_)
              · exact hk3
              clear hK K
              try simp only [Act.put, List.setIfInBounds_toArray, List.set_cons_succ, List.set_cons_zero]
              refine takeH (i := 19) (d := (some 38)) (v := ?_) rfl rfl (by kernel_rfl) (by kernel_rfl) (by kernel_rfl) (fun _ _ _ h => h) (by kernel_rfl) ?_ (by assumption) ?_
              rotate_left
              · (intro w hSw; (try dsimp only at hSw); go_simp; try with_reducible rfl)
              try simp only [Act.put, List.setIfInBounds_toArray, List.set_cons_succ, List.set_cons_zero]
              refine takeH (i := 20) (d := (some 39)) (v := ?_) rfl rfl (by kernel_rfl) (by kernel_rfl) (by kernel_rfl) (fun _ _ _ h => h) (by kernel_rfl) ?_ (by assumption) ?_
              rotate_left
              · (intro w hSw; (try dsimp only at hSw); go_simp; try with_reducible rfl)
              try simp only [Act.put, List.setIfInBounds_toArray, List.set_cons_succ, List.set_cons_zero]
              refine takeH (i := 21) (d := (some 40)) (v := ?_) rfl rfl (by kernel_rfl) (by kernel_rfl) (by kernel_rfl) (fun _ _ _ h => h) (by kernel_rfl) ?_ (by assumption) ?_
              rotate_left
              · (intro w hSw; (try dsimp only at hSw); go_simp; try with_reducible rfl)
              try simp only [Act.put, List.setIfInBounds_toArray, List.set_cons_succ, List.set_cons_zero]
              refine takeH (i := 22) (d := (some 41)) (v := ?_) rfl rfl (by kernel_rfl) (by kernel_rfl) (by kernel_rfl) (fun _ _ _ h => h) (by kernel_rfl) ?_ (by assumption) ?_
              rotate_left
              · (intro w hSw; (try dsimp only at hSw); go_simp; try with_reducible rfl)
              try simp only [Act.put, List.setIfInBounds_toArray, List.set_cons_succ, List.set_cons_zero]
              refine skipH (i := 23) (d := (some 42)) rfl rfl (by kernel_rfl) (by kernel_rfl) (by kernel_rfl) (fun _ _ _ h => h) (by kernel_rfl) (by assumption) ?_
              try simp only [Act.put, List.setIfInBounds_toArray, List.set_cons_succ, List.set_cons_zero]
              refine skipH (i := 24) (d := (some 43)) rfl rfl (by kernel_rfl) (by kernel_rfl) (by kernel_rfl) (fun _ _ _ h => h) (by kernel_rfl) (by assumption) ?_
              try simp only [Act.put, List.setIfInBounds_toArray, List.set_cons_succ, List.set_cons_zero]
              refine skipH (i := 25) (d := (some 44)) rfl rfl (by kernel_rfl) (by kernel_rfl) (by kernel_rfl) (fun _ _ _ h => h) (by kernel_rfl) (by assumption) ?_
              try simp only [Act.put, List.setIfInBounds_toArray, List.set_cons_succ, List.set_cons_zero]
              refine skipH (i := 26) (d := (some 45)) rfl rfl (by kernel_rfl) (by kernel_rfl) (by kernel_rfl) (fun _ _ _ h => h) (by kernel_rfl) (by assumption) ?_
              try simp only [Act.put, List.setIfInBounds_toArray, List.set_cons_succ, List.set_cons_zero]
              refine skipH (i := 27) (d := (some 46)) rfl rfl (by kernel_rfl) (by kernel_rfl) (by kernel_rfl) (fun _ _ _ h => h) (by kernel_rfl) (by assumption) ?_
              try simp only [Act.put, List.setIfInBounds_toArray, List.set_cons_succ, List.set_cons_zero]
              refine skipH (i := 28) (d := (some 47)) rfl rfl (by kernel_rfl) (by kernel_rfl) (by kernel_rfl) (fun _ _ _ h => h) (by kernel_rfl) (by assumption) ?_
              try simp only [Act.put, List.setIfInBounds_toArray, List.set_cons_succ, List.set_cons_zero]
              refine skipH (i := 29) (d := (some 48)) rfl rfl (by kernel_rfl) (by kernel_rfl) (by kernel_rfl) (fun _ _ _ h => h) (by kernel_rfl) (by assumption) ?_
              try simp only [Act.put, List.setIfInBounds_toArray, List.set_cons_succ, List.set_cons_zero]
              refine skipH (i := 30) (d := (some 49)) rfl rfl (by kernel_rfl) (by kernel_rfl) (by kernel_rfl) (fun _ _ _ h => h) (by kernel_rfl) (by assumption) ?_
              try simp only [Act.put, List.setIfInBounds_toArray, List.set_cons_succ, List.set_cons_zero]
              refine takeH (i := 31) (d := (some 50)) (v := ?_) rfl rfl (by kernel_rfl) (by kernel_rfl) (by kernel_rfl) (fun _ _ _ h => h) (by kernel_rfl) ?_ (by assumption) ?_
              rotate_left
              · (intro w hSw; (try dsimp only at hSw); go_simp; try with_reducible rfl)
              try simp only [Act.put, List.setIfInBounds_toArray, List.set_cons_succ, List.set_cons_zero]
              refine wpAnyH_done (by kernel_rfl) ?_ _
              have hB3 := hk3.1
              clear hk3 hF hA hwr
              try clear hHeld
              go_wp2_with fail
              go_ret
              exact ⟨ret_bool (by rw [HL.out]; exact HN.out.symm), hBW.trans (hB3.mono hBW.size)⟩
            | true =>
              have hPl : esPlc l (esAt l (j + 1)).e.key = ((j + 1 : Nat) : Int) := esNo_asc hlt HTO.out (.inr hA)
              have HN : Hid (bsTo n (l.map Row.e) (j + 1 + 1)) := bsTo_step HTO.out (by unfold bsRowOk; rw [Nat.add_sub_cancel, HM.out, HMJ.out, HF.out, hA]; simp)
              refine wp_region_held_drew (S := (fun w' => Below W.heap.size W w' ∧ w'.cell? ⟨w.heap.size, 0, none⟩ = some (.slice (some ⟨b, off, none⟩) l.length cap) ∧ w'.cell? ⟨w.heap.size, 1, none⟩ = some (.int .i64 12) ∧ w'.cell? ⟨w.heap.size, 2, none⟩ = some (.func (.func 47) #[] #[]) ∧ w'.cell? ⟨w.heap.size, 3, none⟩ = some (.func (.func 48) #[] #[]) ∧ w'.cell? ⟨w.heap.size, 4, none⟩ = some (.func (.func 44) #[] #[.pointer (some ⟨B, 0, none⟩)]) ∧ w'.cell? ⟨wr.heap.size, 0, none⟩ = some (.string (esAt l (j + 1)).e.key) ∧ w'.cell? ⟨wr.heap.size, 1, none⟩ = some (.int .i64 (esAt l (j + 1)).e.til) ∧ w'.cell? ⟨wr.heap.size, 2, none⟩ = some (.int .i64 (esAt l (j + 1)).e.kind) ∧ w'.cell? ⟨wr.heap.size, 3, none⟩ = some (.string (esAt l (j + 1)).e.text) ∧ w'.cell? ⟨wr.heap.size, 4, none⟩ = some (.slice (esAt l (j + 1)).al (esAt l (j + 1)).e.list.length (esAt l (j + 1)).cl) ∧ w'.cell? ⟨wr.heap.size, 5, none⟩ = some (.slice (esAt l (j + 1)).as_ (esAt l (j + 1)).e.scores.length (esAt l (j + 1)).cs) ∧ w'.cell? ⟨wr.heap.size, 6, none⟩ = some (.slice (esAt l (j + 1)).af (esAt l (j + 1)).e.fields.length (esAt l (j + 1)).cf) ∧ w'.cell? ⟨b, off + j * 7, none⟩ = some (.string (esAt l j).e.key) ∧ w'.cell? ⟨b, off + j * 7 + 1, none⟩ = some (.int .i64 (esAt l j).e.til) ∧ w'.cell? ⟨b, off + j * 7 + 2, none⟩ = some (.int .i64 (esAt l j).e.kind) ∧ w'.cell? ⟨b, off + j * 7 + 3, none⟩ = some (.string (esAt l j).e.text) ∧ w'.cell? ⟨b, off + j * 7 + 4, none⟩ = some (.slice (esAt l j).al (esAt l j).e.list.length (esAt l j).cl) ∧ w'.cell? ⟨b, off + j * 7 + 5, none⟩ = some (.slice (esAt l j).as_ (esAt l j).e.scores.length (esAt l j).cs) ∧ w'.cell? ⟨b, off + j * 7 + 6, none⟩ = some (.slice (esAt l j).af (esAt l j).e.fields.length (esAt l j).cf))) (by kernel_rfl) (by exact HS2.out _ (Below.refl _ _).drew) (fun hHeld => ?_)
              refine takeH (i := 0) (d := (some 19)) (v := ?_) rfl rfl (by kernel_rfl) (by kernel_rfl) (by kernel_rfl) (fun _ _ _ h => h) (by kernel_rfl) ?_ (by assumption) ?_
              rotate_left
              · (intro w hSw; (try dsimp only at hSw); go_simp; try with_reducible rfl)
              try simp only [Act.put, List.setIfInBounds_toArray, List.set_cons_succ, List.set_cons_zero]
              refine takeH (i := 1) (d := (some 20)) (v := ?_) rfl rfl (by kernel_rfl) (by kernel_rfl) (by kernel_rfl) (fun _ _ _ h => h) (by kernel_rfl) ?_ (by assumption) ?_
              rotate_left
              · (intro w hSw; (try dsimp only at hSw); go_simp; try with_reducible rfl)
              try simp only [Act.put, List.setIfInBounds_toArray, List.set_cons_succ, List.set_cons_zero]
              refine takeH (i := 2) (d := (some 21)) (v := ?_) rfl rfl (by kernel_rfl) (by kernel_rfl) (by kernel_rfl) (fun _ _ _ h => h) (by kernel_rfl) ?_ (by assumption) ?_
              rotate_left
              · (intro w hSw; (try dsimp only at hSw); go_simp; try with_reducible rfl)
              try simp only [Act.put, List.setIfInBounds_toArray, List.set_cons_succ, List.set_cons_zero]
              refine wpAnyH_ready (rs := [3]) (by kernel_rfl) (by simp) ?_
              refine AllReadyH.cons rfl (fun K hK => ?_) AllReadyH.nil
              go_simp
              refine (entryFits_any (esAt l (j + 1)).e _ _ _ _ _ _ B n u _ (HR.out _ hHeld.1) hss (HB.out _ hHeld.1)).mono ?_; rintro x w3 ⟨he, hb3⟩; rw [hF] at he; subst he; have hk3 := HS2.out _ (hHeld.1.trans (hb3.mono hHeld.1.size)); clear hb3
              refine hK.out _ _ ?_ (fun hHeld => ?_)
              · exact hk3
              clear hK K
              try simp only [Act.put, List.setIfInBounds_toArray, List.set_cons_succ, List.set_cons_zero]
              refine takeH (i := 4) (d := (some 23)) (v := ?_) rfl rfl (by kernel_rfl) (by kernel_rfl) (by kernel_rfl) (fun _ _ _ h => h) (by kernel_rfl) ?_ (by assumption) ?_
              rotate_left
              · (intro w hSw; (try dsimp only at hSw); go_simp; try with_reducible rfl)
              try simp only [Act.put, List.setIfInBounds_toArray, List.set_cons_succ, List.set_cons_zero]
              refine takeH (i := 5) (d := (some 24)) (v := ?_) rfl rfl (by kernel_rfl) (by kernel_rfl) (by kernel_rfl) (fun _ _ _ h => h) (by kernel_rfl) ?_ (by assumption) ?_
              rotate_left
              · (intro w hSw; (try dsimp only at hSw); go_simp; try with_reducible rfl)
              try simp only [Act.put, List.setIfInBounds_toArray, List.set_cons_succ, List.set_cons_zero]
              refine takeH (i := 6) (d := (some 25)) (v := ?_) rfl rfl (by kernel_rfl) (by kernel_rfl) (by kernel_rfl) (fun _ _ _ h => h) (by kernel_rfl) ?_ (by assumption) ?_
              rotate_left
              · (intro w hSw; (try dsimp only at hSw); go_simp; try with_reducible rfl)
              try simp only [Act.put, List.setIfInBounds_toArray, List.set_cons_succ, List.set_cons_zero]
              refine takeH (i := 7) (d := (some 26)) (v := ?_) rfl rfl (by kernel_rfl) (by kernel_rfl) (by kernel_rfl) (fun _ _ _ h => h) (by kernel_rfl) ?_ (by assumption) ?_
              rotate_left
              · (intro w hSw; (try dsimp only at hSw); go_simp; try with_reducible rfl)
              try simp only [Act.put, List.setIfInBounds_toArray, List.set_cons_succ, List.set_cons_zero]
              refine takeH (i := 8) (d := (some 27)) (v := ?_) rfl rfl (by kernel_rfl) (by kernel_rfl) (by kernel_rfl) (fun _ _ _ h => h) (by kernel_rfl) ?_ (by assumption) ?_
              rotate_left
              · (intro w hSw; (try dsimp only at hSw); go_simp; try with_reducible rfl)
              try simp only [Act.put, List.setIfInBounds_toArray, List.set_cons_succ, List.set_cons_zero]
              refine takeH (i := 9) (d := (some 28)) (v := ?_) rfl rfl (by kernel_rfl) (by kernel_rfl) (by kernel_rfl) (fun _ _ _ h => h) (by kernel_rfl) ?_ (by assumption) ?_
              rotate_left
              · (intro w hSw; (try dsimp only at hSw); go_simp; try with_reducible rfl)
              try simp only [Act.put, List.setIfInBounds_toArray, List.set_cons_succ, List.set_cons_zero]
              refine takeH (i := 10) (d := (some 29)) (v := ?_) rfl rfl (by kernel_rfl) (by kernel_rfl) (by kernel_rfl) (fun _ _ _ h => h) (by kernel_rfl) ?_ (by assumption) ?_
              rotate_left
              · (intro w hSw; (try dsimp only at hSw); go_simp; try with_reducible rfl)
              try simp only [Act.put, List.setIfInBounds_toArray, List.set_cons_succ, List.set_cons_zero]
              refine takeH (i := 11) (d := (some 30)) (v := ?_) rfl rfl (by kernel_rfl) (by kernel_rfl) (by kernel_rfl) (fun _ _ _ h => h) (by kernel_rfl) ?_ (by assumption) ?_
              rotate_left
              · (intro w hSw; (try dsimp only at hSw); go_simp; try with_reducible rfl)
              try simp only [Act.put, List.setIfInBounds_toArray, List.set_cons_succ, List.set_cons_zero]
              refine takeH (i := 12) (d := (some 31)) (v := ?_) rfl rfl (by kernel_rfl) (by kernel_rfl) (by kernel_rfl) (fun _ _ _ h => h) (by kernel_rfl) ?_ (by assumption) ?_
              rotate_left
              · (intro w hSw; (try dsimp only at hSw); go_simp; try with_reducible rfl)
              try simp only [Act.put, List.setIfInBounds_toArray, List.set_cons_succ, List.set_cons_zero]
              refine takeH (i := 13) (d := (some 32)) (v := ?_) rfl rfl (by kernel_rfl) (by kernel_rfl) (by kernel_rfl) (fun _ _ _ h => h) (by kernel_rfl) ?_ (by assumption) ?_
              rotate_left
              · (intro w hSw; (try dsimp only at hSw); go_simp; try with_reducible rfl)
              try simp only [Act.put, List.setIfInBounds_toArray, List.set_cons_succ, List.set_cons_zero]
              refine takeH (i := 14) (d := (some 33)) (v := ?_) rfl rfl (by kernel_rfl) (by kernel_rfl) (by kernel_rfl) (fun _ _ _ h => h) (by kernel_rfl) ?_ (by assumption) ?_
              rotate_left
              · (intro w hSw; (try dsimp only at hSw); go_simp; try with_reducible rfl)
              try simp only [Act.put, List.setIfInBounds_toArray, List.set_cons_succ, List.set_cons_zero]
              refine takeH (i := 15) (d := (some 34)) (v := ?_) rfl rfl (by kernel_rfl) (by kernel_rfl) (by kernel_rfl) (fun _ _ _ h => h) (by kernel_rfl) ?_ (by assumption) ?_
              rotate_left
              · (intro w hSw; (try dsimp only at hSw); go_simp; try with_reducible rfl)
              try simp only [Act.put, List.setIfInBounds_toArray, List.set_cons_succ, List.set_cons_zero]
              refine takeH (i := 16) (d := (some 35)) (v := ?_) rfl rfl (by kernel_rfl) (by kernel_rfl) (by kernel_rfl) (fun _ _ _ h => h) (by kernel_rfl) ?_ (by assumption) ?_
              rotate_left
              · (intro w hSw; (try dsimp only at hSw); go_simp; try with_reducible rfl)
              try simp only [Act.put, List.setIfInBounds_toArray, List.set_cons_succ, List.set_cons_zero]
              refine takeH (i := 17) (d := (some 36)) (v := ?_) rfl rfl (by kernel_rfl) (by kernel_rfl) (by kernel_rfl) (fun _ _ _ h => h) (by kernel_rfl) ?_ (by assumption) ?_
              rotate_left
              · (intro w hSw; (try dsimp only at hSw); go_simp; try with_reducible rfl)
              try simp only [Act.put, List.setIfInBounds_toArray, List.set_cons_succ, List.set_cons_zero]
              refine wpAnyH_ready (rs := [18]) (by kernel_rfl) (by simp) ?_
              refine AllReadyH.cons rfl (fun K hK => ?_) AllReadyH.nil
              go_simp
              refine (entryAhead_any (esAt l j).e (esAt l (j + 1)).e _ _ _ _ _ _ _ _ _ _ _ _ _).mono ?_; rintro x w3 ⟨he, hb3⟩; rw [hA] at he; subst he; have hk3 := HS2.out _ (hHeld.1.trans (hb3.mono hHeld.1.size)); clear hb3
              refine hK.out _ _ ?_ (fun hHeld => ?_)
              · exact hk3
              clear hK K
              try simp only [Act.put, List.setIfInBounds_toArray, List.set_cons_succ, List.set_cons_zero]
              refine takeH (i := 19) (d := (some 38)) (v := ?_) rfl rfl (by kernel_rfl) (by kernel_rfl) (by kernel_rfl) (fun _ _ _ h => h) (by kernel_rfl) ?_ (by assumption) ?_
              rotate_left
              · (intro w hSw; (try dsimp only at hSw); go_simp; try with_reducible rfl)
              try simp only [Act.put, List.setIfInBounds_toArray, List.set_cons_succ, List.set_cons_zero]
              refine takeH (i := 20) (d := (some 39)) (v := ?_) rfl rfl (by kernel_rfl) (by kernel_rfl) (by kernel_rfl) (fun _ _ _ h => h) (by kernel_rfl) ?_ (by assumption) ?_
              rotate_left
              · (intro w hSw; (try dsimp only at hSw); go_simp; try with_reducible rfl)
              try simp only [Act.put, List.setIfInBounds_toArray, List.set_cons_succ, List.set_cons_zero]
              refine takeH (i := 21) (d := (some 40)) (v := ?_) rfl rfl (by kernel_rfl) (by kernel_rfl) (by kernel_rfl) (fun _ _ _ h => h) (by kernel_rfl) ?_ (by assumption) ?_
              rotate_left
              · (intro w hSw; (try dsimp only at hSw); go_simp; try with_reducible rfl)
              try simp only [Act.put, List.setIfInBounds_toArray, List.set_cons_succ, List.set_cons_zero]
              refine takeH (i := 22) (d := (some 41)) (v := ?_) rfl rfl (by kernel_rfl) (by kernel_rfl) (by kernel_rfl) (fun _ _ _ h => h) (by kernel_rfl) ?_ (by assumption) ?_
              rotate_left
              · (intro w hSw; (try dsimp only at hSw); go_simp; try with_reducible rfl)
              try simp only [Act.put, List.setIfInBounds_toArray, List.set_cons_succ, List.set_cons_zero]
              refine takeH (i := 23) (d := (some 42)) (v := ?_) rfl rfl (by kernel_rfl) (by kernel_rfl) (by kernel_rfl) (fun _ _ _ h => h) (by kernel_rfl) ?_ (by assumption) ?_
              rotate_left
              · (intro w hSw; (try dsimp only at hSw); go_simp; try with_reducible rfl)
              try simp only [Act.put, List.setIfInBounds_toArray, List.set_cons_succ, List.set_cons_zero]
              refine takeH (i := 24) (d := (some 43)) (v := ?_) rfl rfl (by kernel_rfl) (by kernel_rfl) (by kernel_rfl) (fun _ _ _ h => h) (by kernel_rfl) ?_ (by assumption) ?_
              rotate_left
              · (intro w hSw; (try dsimp only at hSw); go_simp; try with_reducible rfl)
              try simp only [Act.put, List.setIfInBounds_toArray, List.set_cons_succ, List.set_cons_zero]
              refine takeH (i := 25) (d := (some 44)) (v := ?_) rfl rfl (by kernel_rfl) (by kernel_rfl) (by kernel_rfl) (fun _ _ _ h => h) (by kernel_rfl) ?_ (by assumption) ?_
              rotate_left
              · (intro w hSw; (try dsimp only at hSw); go_simp; try with_reducible rfl)
              try simp only [Act.put, List.setIfInBounds_toArray, List.set_cons_succ, List.set_cons_zero]
              refine takeH (i := 26) (d := (some 45)) (v := ?_) rfl rfl (by kernel_rfl) (by kernel_rfl) (by kernel_rfl) (fun _ _ _ h => h) (by kernel_rfl) ?_ (by assumption) ?_
              rotate_left
              · (intro w hSw; (try dsimp only at hSw); go_simp; try with_reducible rfl)
              try simp only [Act.put, List.setIfInBounds_toArray, List.set_cons_succ, List.set_cons_zero]
              refine takeH (i := 29) (d := (some 48)) (v := ?_) rfl rfl (by kernel_rfl) (by kernel_rfl) (by kernel_rfl) (fun _ _ _ h => h) (by kernel_rfl) ?_ (by assumption) ?_
              rotate_left
              · (intro w hSw; (try dsimp only at hSw); go_simp; try with_reducible rfl)
              try simp only [Act.put, List.setIfInBounds_toArray, List.set_cons_succ, List.set_cons_zero]
              refine wpAnyH_ready (rs := [27]) (by kernel_rfl) (by simp) ?_
              refine AllReadyH.cons rfl (fun K hK => ?_) AllReadyH.nil
              go_simp
              refine (entryKey_any (esAt l (j + 1)).e _ _ _ _ _ _ _).mono ?_; rintro x w3 ⟨rfl, hb3⟩; have hk3 := HS2.out _ (hHeld.1.trans (hb3.mono hHeld.1.size)); clear hb3
              refine hK.out _ _ ?_ (fun hHeld => ?_)
              · exact hk3
              clear hK K
              try simp only [Act.put, List.setIfInBounds_toArray, List.set_cons_succ, List.set_cons_zero]
              refine wpAnyH_ready (rs := [28]) (by kernel_rfl) (by simp) ?_
              refine AllReadyH.cons rfl (fun K hK => ?_) AllReadyH.nil
              go_simp
              refine (esPlace_any _ l (esAt l (j + 1)).e.key B _ (HES.out _ hHeld.1) hlen).mono ?_; rintro x w3 ⟨he, hb3⟩; rw [hPl] at he; subst he; have hk3 := HS2.out _ (hHeld.1.trans (hb3.mono hHeld.1.size)); clear hb3
              refine hK.out _ _ ?_ (fun hHeld => ?_)
              · exact hk3
              clear hK K
              try simp only [Act.put, List.setIfInBounds_toArray, List.set_cons_succ, List.set_cons_zero]
              refine takeH (i := 30) (d := (some 49)) (v := ?_) rfl rfl (by kernel_rfl) (by kernel_rfl) (by kernel_rfl) (fun _ _ _ h => h) (by kernel_rfl) ?_ (by assumption) ?_
              rotate_left
              · (intro w hSw; (try dsimp only at hSw); go_simp; try with_reducible rfl)
              try simp only [Act.put, List.setIfInBounds_toArray, List.set_cons_succ, List.set_cons_zero]
              refine takeH (i := 31) (d := (some 50)) (v := ?_) rfl rfl (by kernel_rfl) (by kernel_rfl) (by kernel_rfl) (fun _ _ _ h => h) (by kernel_rfl) ?_ (by assumption) ?_
              rotate_left
              · (intro w hSw; (try dsimp only at hSw); go_simp; try with_reducible rfl)
              try simp only [Act.put, List.setIfInBounds_toArray, List.set_cons_succ, List.set_cons_zero]
              refine wpAnyH_done (by kernel_rfl) ?_ _
              have hB3 := hk3.1
              have HQ3 : Hid _ := HQ.out _ hB3
              clear hk3 hF hA hwr hPl
              try clear hHeld
              go_wp2_with fail
              go_roundw
              case rel => exact ⟨j + 1 + 1, hlt, by go_num, HN.out, HQ3, hBW.trans (hB3.mono hBW.size)⟩
              case measure => simp [intOf]; omega
      · obtain rfl : k = l.length := by omega
        have HA : Hid (bsAll n (l.map Row.e) = true) := bsTo_all (by simpa using HTO.out)
        go_wp2_with fail
        go_ret
        exact ⟨ret_bool (by rw [HL.out, HA.out]), hB⟩
end Go.Proofs.YtaiboncomibikaaGreatDoor
