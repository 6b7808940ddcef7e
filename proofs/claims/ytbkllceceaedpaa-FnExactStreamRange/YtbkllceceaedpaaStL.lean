/- The model's StreamRange. -/
import Derived.Test.YtbkllceceaedpaaStK
import Derived.Test.YtbkllceceaedpaaStJ
import Derived.Test.YtbkllceceaedpaaStV
namespace Go.Proofs.Ytbkllceceaedpaa
open Go.RowKit
set_option linter.unusedVariables false

theorem rngIf_end {ok : Bool} {f g : Int × Int} {c : Int} {l ys : List ItRow} (h : ys.map ItRow.e = (itRng f g c (l.take l.length)).map ItRow.e) (h0 : l.length = 0 ∨ ok = true) : ys.map ItRow.e = (itRngIf ok f g c l).map ItRow.e := by
  rw [List.take_length] at h
  rcases h0 with h0 | h0
  · have : l = [] := List.length_eq_zero_iff.1 h0
    subst this
    rw [h]; unfold itRngIf; split <;> rfl
  · rw [h, h0]; rfl
theorem rngIf_no {f g : Int × Int} {c : Int} {l ys : List ItRow} {j : Nat} (h : ys.map ItRow.e = (itRng f g c (l.take j)).map ItRow.e) (h0 : j = 0) : ys.map ItRow.e = (itRngIf false f g c l).map ItRow.e := by
  subst h0; rw [h]; rfl
theorem rngStep_map {f g : Int × Int} {c : Int} {ys zs : List ItRow} {x : ItRow} (h : ys.map ItRow.e = zs.map ItRow.e) (hno : (decide ((ys.length : Int) < c) && (!idLessB (x.e.t, x.e.n) f && !idLessB g (x.e.t, x.e.n))) = false) : ys.map ItRow.e = (rngStep f g c zs x).map ItRow.e := by
  have hl : ys.length = zs.length := by have := congrArg List.length h; simpa using this
  rw [hl] at hno
  unfold rngStep; rw [if_neg (by rw [hno]; simp), h]
theorem rngStep_add {f g : Int × Int} {c : Int} {ys zs : List ItRow} {x y : ItRow} (h : ys.map ItRow.e = zs.map ItRow.e) (hy : y.e = x.e) (hyes : (decide ((ys.length : Int) < c) && (!idLessB (x.e.t, x.e.n) f && !idLessB g (x.e.t, x.e.n))) = true) : (ys ++ [y]).map ItRow.e = (rngStep f g c zs x).map ItRow.e := by
  have hl : ys.length = zs.length := by have := congrArg List.length h; simpa using this
  rw [hl] at hyes
  unfold rngStep; rw [if_pos hyes, List.map_append, List.map_append, h]; simp [hy]
set_option maxHeartbeats 8000000 in
set_option maxRecDepth 100000 in
theorem specRange_any (t n ft fn tt tn c : Int) (vi vg : Value) (li : List ItRow) (lg : List GpRow) (w : World) (hr : StReads w vi vg li lg) (hs : StSmall li lg) :
    Calls Try.prog 13 #[stV t n vi vg, .agg #[.int .i64 ft, .int .i64 fn], .agg #[.int .i64 tt, .int .i64 tn], .int .i64 c] w fun e w' => (∃ u ys, e = .returned u ∧ ys.map ItRow.e = (itRngIf (stOkB t n li lg) (ft, fn) (tt, tn) c li).map ItRow.e ∧ ItG w' w.heap.size w'.heap.size u ys) ∧ Below w.heap.size w w' := by
  obtain ⟨ai, ci, rfl⟩ := readsR_shape hr.i.rows
  obtain ⟨ag, cg, rfl⟩ := readsR_shape hr.g.rows
  have hlen := hs.i.len
  obtain ⟨i0, hi0, hz0, hz1, hz2⟩ := info_parts itInfo
  obtain ⟨w0, hW⟩ : ∃ W, ((w.alloc (.cells #[.int .i64 t, .int .i64 n, .slice ai li.length ci, .slice ag lg.length cg] 34)).alloc (.cells #[.int .i64 ft, .int .i64 fn] 30)).alloc (.cells #[.int .i64 tt, .int .i64 tn] 30) = W := ⟨_, rfl⟩
  have hB0 : Below w.heap.size w w0 := by rw [← hW]; exact (((Below.refl _ w).alloc (Nat.le_refl _) _).alloc (by simp) _).alloc (by simp; omega) _
  have HZ0 : Hid (w0.heap.size = w.heap.size + 3) := by show _ = _; rw [← hW]; simp
  obtain ⟨q0, q1, q2⟩ : w0.heap[w.heap.size]? = some _ ∧ w0.heap[w.heap.size + 1]? = some _ ∧ w0.heap[w.heap.size + 2]? = some _ := by rw [← hW]; exact rows3 _ _ _ _
  have Q0 : Hid _ := q0
  have Q1 : Hid _ := q1
  have Q2 : Hid _ := q2
  clear q0 q1 q2
  go_enter Try.func13, Try.ntmps13
  go_wp2_with fail
  try rw [hW]
  clear hW
  have hba : Below w0.heap.size w0 (w0.alloc (.cells #[] 59)) := (Below.refl _ w0).alloc (Nat.le_refl _) _
  have G0 : ItG (w0.alloc (.cells #[] 59)) w0.heap.size (w0.alloc (.cells #[] 59)).heap.size (.slice (some ⟨w0.heap.size, 0, none⟩) 0 0) [] := ⟨ownR_of (World.ownsRow_lit w0 #[] 0 (Nat.le_refl _) (by simp) rfl), hba.size⟩
  go_loopw [9, 10] (fun o i wr => ∃ (j : Nat) (ys : List ItRow), j ≤ li.length ∧ i = .int .i64 j ∧ Hid (ys.map ItRow.e = (itRng (ft, fn) (tt, tn) c (li.take j)).map ItRow.e) ∧ Hid (j = 0 ∨ stOkB t n li lg = true) ∧ ItG wr w0.heap.size wr.heap.size o ys ∧ Below w0.heap.size w0 wr) (fun _ i _ => li.length - (intOf i).toNat)
  case atStart => exact ⟨0, [], Nat.zero_le _, rfl, rfl, .inl rfl, G0, hba⟩
  case round =>
    clear G0 hba
    obtain ⟨j, ys, hj, rfl, HY, HJ, hG, hb⟩ := hrel
    obtain ⟨ao, co, rfl⟩ := readsR_shape (itG_reads hG).rows
    have hB := hB0.trans (hb.mono hB0.size)
    have hyl : ys.length ≤ j := by
      have h1 := congrArg List.length HY.out
      have := itRng_len (f := (ft, fn)) (g := (tt, tn)) (c := c) (li.take j)
      rw [List.length_take] at this
      rw [List.length_map, List.length_map] at h1
      omega
    have hzw := hb.size
    have HX : Hid (∀ w', Below wr.heap.size wr w' → (w'.cell? ⟨w.heap.size, 0, none⟩ = some (.int .i64 t) ∧ w'.cell? ⟨w.heap.size, 1, none⟩ = some (.int .i64 n) ∧ w'.cell? ⟨w.heap.size, 2, none⟩ = some (.slice ai li.length ci) ∧ w'.cell? ⟨w.heap.size, 3, none⟩ = some (.slice ag lg.length cg)) ∧ (w'.cell? ⟨w.heap.size + 1, 0, none⟩ = some (.int .i64 ft) ∧ w'.cell? ⟨w.heap.size + 1, 1, none⟩ = some (.int .i64 fn)) ∧ (w'.cell? ⟨w.heap.size + 2, 0, none⟩ = some (.int .i64 tt) ∧ w'.cell? ⟨w.heap.size + 2, 1, none⟩ = some (.int .i64 tn))) := fun w' h => by
      have z0 := HZ0.out
      have e0 := (h.block w.heap.size (by omega)).trans ((hb.block w.heap.size (by omega)).trans Q0.out)
      have e1 := (h.block (w.heap.size + 1) (by omega)).trans ((hb.block (w.heap.size + 1) (by omega)).trans Q1.out)
      have e2 := (h.block (w.heap.size + 2) (by omega)).trans ((hb.block (w.heap.size + 2) (by omega)).trans Q2.out)
      exact ⟨cells4 e0, ⟨cellAt_row e1 0, cellAt_row e1 1⟩, ⟨cellAt_row e2 0, cellAt_row e2 1⟩⟩
    obtain ⟨⟨c0, c1, c2, c3⟩, _⟩ := HX.out wr (Below.refl _ _)
    by_cases hlt : j < li.length
    · have hk1 : (j : Int) < (li.length : Int) := by omega
      go_wp2_with fail
      clear c0 c1 c2 c3
      refine (specStOk_any t n _ _ li lg _ (stReads_kept hr hB) hs).mono ?_
      rintro e w2 ⟨rfl, hb2⟩
      have hG2 := itG_up hG hb2
      have hbx := hb.trans (hb2.mono hzw)
      have hB2 := hB.trans (hb2.mono hB.size)
      cases hok : stOkB t n li lg with
      | false =>
        have HF : Hid (ys.map ItRow.e = (itRngIf false (ft, fn) (tt, tn) c li).map ItRow.e) := rngIf_no HY.out (HJ.out.resolve_right (by rw [hok]; simp))
        clear hG
        go_wp2_with fail
        go_ret
        exact ⟨⟨.slice ao ys.length co, ys, rfl, by first | exact HF.out | (rw [hok]; exact HF.out), itG_lower hG2 hB0.size (Nat.le_refl _)⟩, hB2⟩
      | true =>
        have HOK : Hid (stOkB t n li lg = true) := hok
        clear hok hG
        obtain ⟨b, off, rfl, hbb, hnc, hcm, hc⟩ := it_some hr.i.rows (by omega)
        have HS : Hid (∀ w', Below w2.heap.size w2 w' → ((w'.cell? ⟨w.heap.size, 0, none⟩ = some (.int .i64 t) ∧ w'.cell? ⟨w.heap.size, 1, none⟩ = some (.int .i64 n) ∧ w'.cell? ⟨w.heap.size, 2, none⟩ = some (.slice (some ⟨b, off, none⟩) li.length ci) ∧ w'.cell? ⟨w.heap.size, 3, none⟩ = some (.slice ag lg.length cg)) ∧ (w'.cell? ⟨w.heap.size + 1, 0, none⟩ = some (.int .i64 ft) ∧ w'.cell? ⟨w.heap.size + 1, 1, none⟩ = some (.int .i64 fn)) ∧ (w'.cell? ⟨w.heap.size + 2, 0, none⟩ = some (.int .i64 tt) ∧ w'.cell? ⟨w.heap.size + 2, 1, none⟩ = some (.int .i64 tn)) ∧ (w'.cell? ⟨b, off + j * 3, none⟩ = some (.int .i64 (itAt li j).e.t) ∧ w'.cell? ⟨b, off + j * 3 + 1, none⟩ = some (.int .i64 (itAt li j).e.n) ∧ w'.cell? ⟨b, off + j * 3 + 2, none⟩ = some (.slice (itAt li j).a (itAt li j).e.l.length (itAt li j).c)) ∧ Below w2.heap.size w2 w')) := fun w' h => by
          obtain ⟨h1, h2, h3⟩ := HX.out w' (hb2.trans (h.mono hb2.size))
          exact ⟨h1, h2, h3, it_cells hc (hB2.trans (h.mono hB2.size)) hbb hlt, h⟩
        have HSUC : Hid (itRng (ft, fn) (tt, tn) c (li.take (j + 1)) = rngStep (ft, fn) (tt, tn) c (itRng (ft, fn) (tt, tn) c (li.take j)) (itAt li j)) := itRng_succ hlt
        have HIN : Hid (∀ w', Below w2.heap.size w2 w' → ItIn w' (itAt li j)) := fun w' h => itIn_kept (hr.i.ins _ (itAt_mem hlt)) (hB2.trans (h.mono hB2.size))
        have hsm := (hs.i.each _ (itAt_mem hlt)).len
        clear hnc hcm hc hb2 HX
        go_wp2_with fail
        cases hF : idLessB ((itAt li j).e.t, (itAt li j).e.n) (ft, fn) with
        | true =>
          refine wp_region_held_drew (S := (fun w' => ((w'.cell? ⟨w.heap.size, 0, none⟩ = some (.int .i64 t) ∧ w'.cell? ⟨w.heap.size, 1, none⟩ = some (.int .i64 n) ∧ w'.cell? ⟨w.heap.size, 2, none⟩ = some (.slice (some ⟨b, off, none⟩) li.length ci) ∧ w'.cell? ⟨w.heap.size, 3, none⟩ = some (.slice ag lg.length cg)) ∧ (w'.cell? ⟨w.heap.size + 1, 0, none⟩ = some (.int .i64 ft) ∧ w'.cell? ⟨w.heap.size + 1, 1, none⟩ = some (.int .i64 fn)) ∧ (w'.cell? ⟨w.heap.size + 2, 0, none⟩ = some (.int .i64 tt) ∧ w'.cell? ⟨w.heap.size + 2, 1, none⟩ = some (.int .i64 tn)) ∧ (w'.cell? ⟨b, off + j * 3, none⟩ = some (.int .i64 (itAt li j).e.t) ∧ w'.cell? ⟨b, off + j * 3 + 1, none⟩ = some (.int .i64 (itAt li j).e.n) ∧ w'.cell? ⟨b, off + j * 3 + 2, none⟩ = some (.slice (itAt li j).a (itAt li j).e.l.length (itAt li j).c)) ∧ Below w2.heap.size w2 w'))) (by kernel_rfl) (by exact HS.out _ (Below.refl _ _).drew) (fun hHeld => ?_)
          refine takeH (i := 0) (d := (some 23)) (v := ?_) rfl rfl (by kernel_rfl) (by kernel_rfl) (by kernel_rfl) (fun _ _ _ h => h) (by kernel_rfl) ?_ (by assumption) ?_
          rotate_left
          · (intro w hSw; (try dsimp only at hSw); go_simp; try with_reducible rfl)
          try simp only [Act.put, List.setIfInBounds_toArray, List.set_cons_succ, List.set_cons_zero]
          refine takeH (i := 1) (d := (some 24)) (v := ?_) rfl rfl (by kernel_rfl) (by kernel_rfl) (by kernel_rfl) (fun _ _ _ h => h) (by kernel_rfl) ?_ (by assumption) ?_
          rotate_left
          · (intro w hSw; (try dsimp only at hSw); go_simp; try with_reducible rfl)
          try simp only [Act.put, List.setIfInBounds_toArray, List.set_cons_succ, List.set_cons_zero]
          refine takeH (i := 2) (d := (some 25)) (v := ?_) rfl rfl (by kernel_rfl) (by kernel_rfl) (by kernel_rfl) (fun _ _ _ h => h) (by kernel_rfl) ?_ (by assumption) ?_
          rotate_left
          · (intro w hSw; (try dsimp only at hSw); go_simp; try with_reducible rfl)
          try simp only [Act.put, List.setIfInBounds_toArray, List.set_cons_succ, List.set_cons_zero]
          refine takeH (i := 3) (d := (some 26)) (v := ?_) rfl rfl (by kernel_rfl) (by kernel_rfl) (by kernel_rfl) (fun _ _ _ h => h) (by kernel_rfl) ?_ (by assumption) ?_
          rotate_left
          · (intro w hSw; (try dsimp only at hSw); go_simp; try with_reducible rfl)
          try simp only [Act.put, List.setIfInBounds_toArray, List.set_cons_succ, List.set_cons_zero]
          refine takeH (i := 4) (d := (some 27)) (v := ?_) rfl rfl (by kernel_rfl) (by kernel_rfl) (by kernel_rfl) (fun _ _ _ h => h) (by kernel_rfl) ?_ (by assumption) ?_
          rotate_left
          · (intro w hSw; (try dsimp only at hSw); go_simp; try with_reducible rfl)
          try simp only [Act.put, List.setIfInBounds_toArray, List.set_cons_succ, List.set_cons_zero]
          refine takeH (i := 5) (d := (some 28)) (v := ?_) rfl rfl (by kernel_rfl) (by kernel_rfl) (by kernel_rfl) (fun _ _ _ h => h) (by kernel_rfl) ?_ (by assumption) ?_
          rotate_left
          · (intro w hSw; (try dsimp only at hSw); go_simp; try with_reducible rfl)
          try simp only [Act.put, List.setIfInBounds_toArray, List.set_cons_succ, List.set_cons_zero]
          refine takeH (i := 6) (d := (some 29)) (v := ?_) rfl rfl (by kernel_rfl) (by kernel_rfl) (by kernel_rfl) (fun _ _ _ h => h) (by kernel_rfl) ?_ (by assumption) ?_
          rotate_left
          · (intro w hSw; (try dsimp only at hSw); go_simp; try with_reducible rfl)
          try simp only [Act.put, List.setIfInBounds_toArray, List.set_cons_succ, List.set_cons_zero]
          refine wpAnyH_ready (rs := [7]) (by kernel_rfl) (by simp) ?_
          refine AllReadyH.cons rfl (fun K hK => ?_) AllReadyH.nil
          go_simp
          refine (specLess_ab (itAt li j).e.t (itAt li j).e.n ft fn _).mono ?_; rw [hF]; rintro e w3 ⟨rfl, hb3⟩; have hq := (hHeld.2.2.2.2).trans (hb3.mono (hHeld.2.2.2.2).size)
          refine hK.out _ _ ?_ (fun hHeld => ?_)
          · exact HS.out _ hq
          clear hK K
          try simp only [Act.put, List.setIfInBounds_toArray, List.set_cons_succ, List.set_cons_zero]
          refine takeH (i := 8) (d := (some 31)) (v := ?_) rfl rfl (by kernel_rfl) (by kernel_rfl) (by kernel_rfl) (fun _ _ _ h => h) (by kernel_rfl) ?_ (by assumption) ?_
          rotate_left
          · (intro w hSw; (try dsimp only at hSw); go_simp; try with_reducible rfl)
          try simp only [Act.put, List.setIfInBounds_toArray, List.set_cons_succ, List.set_cons_zero]
          refine takeH (i := 9) (d := (some 32)) (v := ?_) rfl rfl (by kernel_rfl) (by kernel_rfl) (by kernel_rfl) (fun _ _ _ h => h) (by kernel_rfl) ?_ (by assumption) ?_
          rotate_left
          · (intro w hSw; (try dsimp only at hSw); go_simp; try with_reducible rfl)
          try simp only [Act.put, List.setIfInBounds_toArray, List.set_cons_succ, List.set_cons_zero]
          refine skipH (i := 10) (d := (some 33)) rfl rfl (by kernel_rfl) (by kernel_rfl) (by kernel_rfl) (fun _ _ _ h => h) (by kernel_rfl) (by assumption) ?_
          try simp only [Act.put, List.setIfInBounds_toArray, List.set_cons_succ, List.set_cons_zero]
          refine skipH (i := 11) (d := (some 34)) rfl rfl (by kernel_rfl) (by kernel_rfl) (by kernel_rfl) (fun _ _ _ h => h) (by kernel_rfl) (by assumption) ?_
          try simp only [Act.put, List.setIfInBounds_toArray, List.set_cons_succ, List.set_cons_zero]
          refine skipH (i := 12) (d := (some 35)) rfl rfl (by kernel_rfl) (by kernel_rfl) (by kernel_rfl) (fun _ _ _ h => h) (by kernel_rfl) (by assumption) ?_
          try simp only [Act.put, List.setIfInBounds_toArray, List.set_cons_succ, List.set_cons_zero]
          refine skipH (i := 13) (d := (some 36)) rfl rfl (by kernel_rfl) (by kernel_rfl) (by kernel_rfl) (fun _ _ _ h => h) (by kernel_rfl) (by assumption) ?_
          try simp only [Act.put, List.setIfInBounds_toArray, List.set_cons_succ, List.set_cons_zero]
          refine skipH (i := 14) (d := (some 37)) rfl rfl (by kernel_rfl) (by kernel_rfl) (by kernel_rfl) (fun _ _ _ h => h) (by kernel_rfl) (by assumption) ?_
          try simp only [Act.put, List.setIfInBounds_toArray, List.set_cons_succ, List.set_cons_zero]
          refine skipH (i := 15) (d := (some 38)) rfl rfl (by kernel_rfl) (by kernel_rfl) (by kernel_rfl) (fun _ _ _ h => h) (by kernel_rfl) (by assumption) ?_
          try simp only [Act.put, List.setIfInBounds_toArray, List.set_cons_succ, List.set_cons_zero]
          refine skipH (i := 16) (d := (some 39)) rfl rfl (by kernel_rfl) (by kernel_rfl) (by kernel_rfl) (fun _ _ _ h => h) (by kernel_rfl) (by assumption) ?_
          try simp only [Act.put, List.setIfInBounds_toArray, List.set_cons_succ, List.set_cons_zero]
          refine skipH (i := 17) (d := (some 40)) rfl rfl (by kernel_rfl) (by kernel_rfl) (by kernel_rfl) (fun _ _ _ h => h) (by kernel_rfl) (by assumption) ?_
          try simp only [Act.put, List.setIfInBounds_toArray, List.set_cons_succ, List.set_cons_zero]
          refine skipH (i := 18) (d := (some 41)) rfl rfl (by kernel_rfl) (by kernel_rfl) (by kernel_rfl) (fun _ _ _ h => h) (by kernel_rfl) (by assumption) ?_
          try simp only [Act.put, List.setIfInBounds_toArray, List.set_cons_succ, List.set_cons_zero]
          refine takeH (i := 19) (d := (some 42)) (v := ?_) rfl rfl (by kernel_rfl) (by kernel_rfl) (by kernel_rfl) (fun _ _ _ h => h) (by kernel_rfl) ?_ (by assumption) ?_
          rotate_left
          · (intro w hSw; (try dsimp only at hSw); go_simp; try with_reducible rfl)
          try simp only [Act.put, List.setIfInBounds_toArray, List.set_cons_succ, List.set_cons_zero]
          refine takeH (i := 20) (d := (some 43)) (v := ?_) rfl rfl (by kernel_rfl) (by kernel_rfl) (by kernel_rfl) (fun _ _ _ h => h) (by kernel_rfl) ?_ (by assumption) ?_
          rotate_left
          · (intro w hSw; (try dsimp only at hSw); go_simp; try with_reducible rfl)
          try simp only [Act.put, List.setIfInBounds_toArray, List.set_cons_succ, List.set_cons_zero]
          refine skipH (i := 21) (d := (some 44)) rfl rfl (by kernel_rfl) (by kernel_rfl) (by kernel_rfl) (fun _ _ _ h => h) (by kernel_rfl) (by assumption) ?_
          try simp only [Act.put, List.setIfInBounds_toArray, List.set_cons_succ, List.set_cons_zero]
          refine skipH (i := 22) (d := (some 45)) rfl rfl (by kernel_rfl) (by kernel_rfl) (by kernel_rfl) (fun _ _ _ h => h) (by kernel_rfl) (by assumption) ?_
          try simp only [Act.put, List.setIfInBounds_toArray, List.set_cons_succ, List.set_cons_zero]
          refine skipH (i := 23) (d := (some 46)) rfl rfl (by kernel_rfl) (by kernel_rfl) (by kernel_rfl) (fun _ _ _ h => h) (by kernel_rfl) (by assumption) ?_
          try simp only [Act.put, List.setIfInBounds_toArray, List.set_cons_succ, List.set_cons_zero]
          refine skipH (i := 24) (d := (some 47)) rfl rfl (by kernel_rfl) (by kernel_rfl) (by kernel_rfl) (fun _ _ _ h => h) (by kernel_rfl) (by assumption) ?_
          try simp only [Act.put, List.setIfInBounds_toArray, List.set_cons_succ, List.set_cons_zero]
          refine takeH (i := 25) (d := (some 48)) (v := ?_) rfl rfl (by kernel_rfl) (by kernel_rfl) (by kernel_rfl) (fun _ _ _ h => h) (by kernel_rfl) ?_ (by assumption) ?_
          rotate_left
          · (intro w hSw; (try dsimp only at hSw); go_simp; try with_reducible rfl)
          try simp only [Act.put, List.setIfInBounds_toArray, List.set_cons_succ, List.set_cons_zero]
          refine wpAnyH_done (by kernel_rfl) ?_ _
          clear hb3
          have HY2 : Hid (ys.map ItRow.e = (itRng (ft, fn) (tt, tn) c (li.take (j + 1))).map ItRow.e) := by
            show _ = _
            rw [HSUC.out]
            exact rngStep_map HY.out (by rw [hF]; simp)
          have HG4 : Hid _ := itG_up hG2 hq
          have HB4 : Hid _ := hbx.trans (hq.mono hbx.size)
          clear hq hG2 hbx
          try clear hHeld
          go_wp2_with fail
          go_roundw
          case rel => exact ⟨j + 1, ys, hlt, by go_num, HY2, .inr HOK.out, HG4.out, HB4.out⟩
          case measure => simp [intOf]; omega
        | false =>
          cases hG : idLessB (tt, tn) ((itAt li j).e.t, (itAt li j).e.n) with
          | true =>
            refine wp_region_held_drew (S := (fun w' => ((w'.cell? ⟨w.heap.size, 0, none⟩ = some (.int .i64 t) ∧ w'.cell? ⟨w.heap.size, 1, none⟩ = some (.int .i64 n) ∧ w'.cell? ⟨w.heap.size, 2, none⟩ = some (.slice (some ⟨b, off, none⟩) li.length ci) ∧ w'.cell? ⟨w.heap.size, 3, none⟩ = some (.slice ag lg.length cg)) ∧ (w'.cell? ⟨w.heap.size + 1, 0, none⟩ = some (.int .i64 ft) ∧ w'.cell? ⟨w.heap.size + 1, 1, none⟩ = some (.int .i64 fn)) ∧ (w'.cell? ⟨w.heap.size + 2, 0, none⟩ = some (.int .i64 tt) ∧ w'.cell? ⟨w.heap.size + 2, 1, none⟩ = some (.int .i64 tn)) ∧ (w'.cell? ⟨b, off + j * 3, none⟩ = some (.int .i64 (itAt li j).e.t) ∧ w'.cell? ⟨b, off + j * 3 + 1, none⟩ = some (.int .i64 (itAt li j).e.n) ∧ w'.cell? ⟨b, off + j * 3 + 2, none⟩ = some (.slice (itAt li j).a (itAt li j).e.l.length (itAt li j).c)) ∧ Below w2.heap.size w2 w'))) (by kernel_rfl) (by exact HS.out _ (Below.refl _ _).drew) (fun hHeld => ?_)
            refine takeH (i := 0) (d := (some 23)) (v := ?_) rfl rfl (by kernel_rfl) (by kernel_rfl) (by kernel_rfl) (fun _ _ _ h => h) (by kernel_rfl) ?_ (by assumption) ?_
            rotate_left
            · (intro w hSw; (try dsimp only at hSw); go_simp; try with_reducible rfl)
            try simp only [Act.put, List.setIfInBounds_toArray, List.set_cons_succ, List.set_cons_zero]
            refine takeH (i := 1) (d := (some 24)) (v := ?_) rfl rfl (by kernel_rfl) (by kernel_rfl) (by kernel_rfl) (fun _ _ _ h => h) (by kernel_rfl) ?_ (by assumption) ?_
            rotate_left
            · (intro w hSw; (try dsimp only at hSw); go_simp; try with_reducible rfl)
            try simp only [Act.put, List.setIfInBounds_toArray, List.set_cons_succ, List.set_cons_zero]
            refine takeH (i := 2) (d := (some 25)) (v := ?_) rfl rfl (by kernel_rfl) (by kernel_rfl) (by kernel_rfl) (fun _ _ _ h => h) (by kernel_rfl) ?_ (by assumption) ?_
            rotate_left
            · (intro w hSw; (try dsimp only at hSw); go_simp; try with_reducible rfl)
            try simp only [Act.put, List.setIfInBounds_toArray, List.set_cons_succ, List.set_cons_zero]
            refine takeH (i := 3) (d := (some 26)) (v := ?_) rfl rfl (by kernel_rfl) (by kernel_rfl) (by kernel_rfl) (fun _ _ _ h => h) (by kernel_rfl) ?_ (by assumption) ?_
            rotate_left
            · (intro w hSw; (try dsimp only at hSw); go_simp; try with_reducible rfl)
            try simp only [Act.put, List.setIfInBounds_toArray, List.set_cons_succ, List.set_cons_zero]
            refine takeH (i := 4) (d := (some 27)) (v := ?_) rfl rfl (by kernel_rfl) (by kernel_rfl) (by kernel_rfl) (fun _ _ _ h => h) (by kernel_rfl) ?_ (by assumption) ?_
            rotate_left
            · (intro w hSw; (try dsimp only at hSw); go_simp; try with_reducible rfl)
            try simp only [Act.put, List.setIfInBounds_toArray, List.set_cons_succ, List.set_cons_zero]
            refine takeH (i := 5) (d := (some 28)) (v := ?_) rfl rfl (by kernel_rfl) (by kernel_rfl) (by kernel_rfl) (fun _ _ _ h => h) (by kernel_rfl) ?_ (by assumption) ?_
            rotate_left
            · (intro w hSw; (try dsimp only at hSw); go_simp; try with_reducible rfl)
            try simp only [Act.put, List.setIfInBounds_toArray, List.set_cons_succ, List.set_cons_zero]
            refine takeH (i := 6) (d := (some 29)) (v := ?_) rfl rfl (by kernel_rfl) (by kernel_rfl) (by kernel_rfl) (fun _ _ _ h => h) (by kernel_rfl) ?_ (by assumption) ?_
            rotate_left
            · (intro w hSw; (try dsimp only at hSw); go_simp; try with_reducible rfl)
            try simp only [Act.put, List.setIfInBounds_toArray, List.set_cons_succ, List.set_cons_zero]
            refine wpAnyH_ready (rs := [7]) (by kernel_rfl) (by simp) ?_
            refine AllReadyH.cons rfl (fun K hK => ?_) AllReadyH.nil
            go_simp
            refine (specLess_ab (itAt li j).e.t (itAt li j).e.n ft fn _).mono ?_; rw [hF]; rintro e w3 ⟨rfl, hb3⟩; have hq3 := (hHeld.2.2.2.2).trans (hb3.mono (hHeld.2.2.2.2).size)
            refine hK.out _ _ ?_ (fun hHeld => ?_)
            · exact HS.out _ hq3
            clear hK K
            try simp only [Act.put, List.setIfInBounds_toArray, List.set_cons_succ, List.set_cons_zero]
            refine takeH (i := 8) (d := (some 31)) (v := ?_) rfl rfl (by kernel_rfl) (by kernel_rfl) (by kernel_rfl) (fun _ _ _ h => h) (by kernel_rfl) ?_ (by assumption) ?_
            rotate_left
            · (intro w hSw; (try dsimp only at hSw); go_simp; try with_reducible rfl)
            try simp only [Act.put, List.setIfInBounds_toArray, List.set_cons_succ, List.set_cons_zero]
            refine takeH (i := 9) (d := (some 32)) (v := ?_) rfl rfl (by kernel_rfl) (by kernel_rfl) (by kernel_rfl) (fun _ _ _ h => h) (by kernel_rfl) ?_ (by assumption) ?_
            rotate_left
            · (intro w hSw; (try dsimp only at hSw); go_simp; try with_reducible rfl)
            try simp only [Act.put, List.setIfInBounds_toArray, List.set_cons_succ, List.set_cons_zero]
            refine takeH (i := 10) (d := (some 33)) (v := ?_) rfl rfl (by kernel_rfl) (by kernel_rfl) (by kernel_rfl) (fun _ _ _ h => h) (by kernel_rfl) ?_ (by assumption) ?_
            rotate_left
            · (intro w hSw; (try dsimp only at hSw); go_simp; try with_reducible rfl)
            try simp only [Act.put, List.setIfInBounds_toArray, List.set_cons_succ, List.set_cons_zero]
            refine takeH (i := 11) (d := (some 34)) (v := ?_) rfl rfl (by kernel_rfl) (by kernel_rfl) (by kernel_rfl) (fun _ _ _ h => h) (by kernel_rfl) ?_ (by assumption) ?_
            rotate_left
            · (intro w hSw; (try dsimp only at hSw); go_simp; try with_reducible rfl)
            try simp only [Act.put, List.setIfInBounds_toArray, List.set_cons_succ, List.set_cons_zero]
            refine takeH (i := 12) (d := (some 35)) (v := ?_) rfl rfl (by kernel_rfl) (by kernel_rfl) (by kernel_rfl) (fun _ _ _ h => h) (by kernel_rfl) ?_ (by assumption) ?_
            rotate_left
            · (intro w hSw; (try dsimp only at hSw); go_simp; try with_reducible rfl)
            try simp only [Act.put, List.setIfInBounds_toArray, List.set_cons_succ, List.set_cons_zero]
            refine takeH (i := 13) (d := (some 36)) (v := ?_) rfl rfl (by kernel_rfl) (by kernel_rfl) (by kernel_rfl) (fun _ _ _ h => h) (by kernel_rfl) ?_ (by assumption) ?_
            rotate_left
            · (intro w hSw; (try dsimp only at hSw); go_simp; try with_reducible rfl)
            try simp only [Act.put, List.setIfInBounds_toArray, List.set_cons_succ, List.set_cons_zero]
            refine takeH (i := 14) (d := (some 37)) (v := ?_) rfl rfl (by kernel_rfl) (by kernel_rfl) (by kernel_rfl) (fun _ _ _ h => h) (by kernel_rfl) ?_ (by assumption) ?_
            rotate_left
            · (intro w hSw; (try dsimp only at hSw); go_simp; try with_reducible rfl)
            try simp only [Act.put, List.setIfInBounds_toArray, List.set_cons_succ, List.set_cons_zero]
            refine takeH (i := 15) (d := (some 38)) (v := ?_) rfl rfl (by kernel_rfl) (by kernel_rfl) (by kernel_rfl) (fun _ _ _ h => h) (by kernel_rfl) ?_ (by assumption) ?_
            rotate_left
            · (intro w hSw; (try dsimp only at hSw); go_simp; try with_reducible rfl)
            try simp only [Act.put, List.setIfInBounds_toArray, List.set_cons_succ, List.set_cons_zero]
            refine takeH (i := 16) (d := (some 39)) (v := ?_) rfl rfl (by kernel_rfl) (by kernel_rfl) (by kernel_rfl) (fun _ _ _ h => h) (by kernel_rfl) ?_ (by assumption) ?_
            rotate_left
            · (intro w hSw; (try dsimp only at hSw); go_simp; try with_reducible rfl)
            try simp only [Act.put, List.setIfInBounds_toArray, List.set_cons_succ, List.set_cons_zero]
            refine wpAnyH_ready (rs := [17]) (by kernel_rfl) (by simp) ?_
            refine AllReadyH.cons rfl (fun K hK => ?_) AllReadyH.nil
            go_simp
            refine (specLess_ab tt tn (itAt li j).e.t (itAt li j).e.n _).mono ?_; rw [hG]; rintro e w4 ⟨rfl, hb4⟩; have hq := (hHeld.2.2.2.2).trans (hb4.mono (hHeld.2.2.2.2).size)
            refine hK.out _ _ ?_ (fun hHeld => ?_)
            · exact HS.out _ hq
            clear hK K
            try simp only [Act.put, List.setIfInBounds_toArray, List.set_cons_succ, List.set_cons_zero]
            refine takeH (i := 18) (d := (some 41)) (v := ?_) rfl rfl (by kernel_rfl) (by kernel_rfl) (by kernel_rfl) (fun _ _ _ h => h) (by kernel_rfl) ?_ (by assumption) ?_
            rotate_left
            · (intro w hSw; (try dsimp only at hSw); go_simp; try with_reducible rfl)
            try simp only [Act.put, List.setIfInBounds_toArray, List.set_cons_succ, List.set_cons_zero]
            refine takeH (i := 19) (d := (some 42)) (v := ?_) rfl rfl (by kernel_rfl) (by kernel_rfl) (by kernel_rfl) (fun _ _ _ h => h) (by kernel_rfl) ?_ (by assumption) ?_
            rotate_left
            · (intro w hSw; (try dsimp only at hSw); go_simp; try with_reducible rfl)
            try simp only [Act.put, List.setIfInBounds_toArray, List.set_cons_succ, List.set_cons_zero]
            refine takeH (i := 20) (d := (some 43)) (v := ?_) rfl rfl (by kernel_rfl) (by kernel_rfl) (by kernel_rfl) (fun _ _ _ h => h) (by kernel_rfl) ?_ (by assumption) ?_
            rotate_left
            · (intro w hSw; (try dsimp only at hSw); go_simp; try with_reducible rfl)
            try simp only [Act.put, List.setIfInBounds_toArray, List.set_cons_succ, List.set_cons_zero]
            refine skipH (i := 21) (d := (some 44)) rfl rfl (by kernel_rfl) (by kernel_rfl) (by kernel_rfl) (fun _ _ _ h => h) (by kernel_rfl) (by assumption) ?_
            try simp only [Act.put, List.setIfInBounds_toArray, List.set_cons_succ, List.set_cons_zero]
            refine skipH (i := 22) (d := (some 45)) rfl rfl (by kernel_rfl) (by kernel_rfl) (by kernel_rfl) (fun _ _ _ h => h) (by kernel_rfl) (by assumption) ?_
            try simp only [Act.put, List.setIfInBounds_toArray, List.set_cons_succ, List.set_cons_zero]
            refine skipH (i := 23) (d := (some 46)) rfl rfl (by kernel_rfl) (by kernel_rfl) (by kernel_rfl) (fun _ _ _ h => h) (by kernel_rfl) (by assumption) ?_
            try simp only [Act.put, List.setIfInBounds_toArray, List.set_cons_succ, List.set_cons_zero]
            refine skipH (i := 24) (d := (some 47)) rfl rfl (by kernel_rfl) (by kernel_rfl) (by kernel_rfl) (fun _ _ _ h => h) (by kernel_rfl) (by assumption) ?_
            try simp only [Act.put, List.setIfInBounds_toArray, List.set_cons_succ, List.set_cons_zero]
            refine takeH (i := 25) (d := (some 48)) (v := ?_) rfl rfl (by kernel_rfl) (by kernel_rfl) (by kernel_rfl) (fun _ _ _ h => h) (by kernel_rfl) ?_ (by assumption) ?_
            rotate_left
            · (intro w hSw; (try dsimp only at hSw); go_simp; try with_reducible rfl)
            try simp only [Act.put, List.setIfInBounds_toArray, List.set_cons_succ, List.set_cons_zero]
            refine wpAnyH_done (by kernel_rfl) ?_ _
            clear hb3 hb4 hq3
            have HY2 : Hid (ys.map ItRow.e = (itRng (ft, fn) (tt, tn) c (li.take (j + 1))).map ItRow.e) := by
              show _ = _
              rw [HSUC.out]
              exact rngStep_map HY.out (by rw [hF, hG]; simp)
            have HG4 : Hid _ := itG_up hG2 hq
            have HB4 : Hid _ := hbx.trans (hq.mono hbx.size)
            clear hq hG2 hbx
            try clear hHeld
            go_wp2_with fail
            go_roundw
            case rel => exact ⟨j + 1, ys, hlt, by go_num, HY2, .inr HOK.out, HG4.out, HB4.out⟩
            case measure => simp [intOf]; omega
          | false =>
            refine wp_region_held_drew (S := (fun w' => ((w'.cell? ⟨w.heap.size, 0, none⟩ = some (.int .i64 t) ∧ w'.cell? ⟨w.heap.size, 1, none⟩ = some (.int .i64 n) ∧ w'.cell? ⟨w.heap.size, 2, none⟩ = some (.slice (some ⟨b, off, none⟩) li.length ci) ∧ w'.cell? ⟨w.heap.size, 3, none⟩ = some (.slice ag lg.length cg)) ∧ (w'.cell? ⟨w.heap.size + 1, 0, none⟩ = some (.int .i64 ft) ∧ w'.cell? ⟨w.heap.size + 1, 1, none⟩ = some (.int .i64 fn)) ∧ (w'.cell? ⟨w.heap.size + 2, 0, none⟩ = some (.int .i64 tt) ∧ w'.cell? ⟨w.heap.size + 2, 1, none⟩ = some (.int .i64 tn)) ∧ (w'.cell? ⟨b, off + j * 3, none⟩ = some (.int .i64 (itAt li j).e.t) ∧ w'.cell? ⟨b, off + j * 3 + 1, none⟩ = some (.int .i64 (itAt li j).e.n) ∧ w'.cell? ⟨b, off + j * 3 + 2, none⟩ = some (.slice (itAt li j).a (itAt li j).e.l.length (itAt li j).c)) ∧ Below w2.heap.size w2 w'))) (by kernel_rfl) (by exact HS.out _ (Below.refl _ _).drew) (fun hHeld => ?_)
            refine takeH (i := 0) (d := (some 23)) (v := ?_) rfl rfl (by kernel_rfl) (by kernel_rfl) (by kernel_rfl) (fun _ _ _ h => h) (by kernel_rfl) ?_ (by assumption) ?_
            rotate_left
            · (intro w hSw; (try dsimp only at hSw); go_simp; try with_reducible rfl)
            try simp only [Act.put, List.setIfInBounds_toArray, List.set_cons_succ, List.set_cons_zero]
            refine takeH (i := 1) (d := (some 24)) (v := ?_) rfl rfl (by kernel_rfl) (by kernel_rfl) (by kernel_rfl) (fun _ _ _ h => h) (by kernel_rfl) ?_ (by assumption) ?_
            rotate_left
            · (intro w hSw; (try dsimp only at hSw); go_simp; try with_reducible rfl)
            try simp only [Act.put, List.setIfInBounds_toArray, List.set_cons_succ, List.set_cons_zero]
            refine takeH (i := 2) (d := (some 25)) (v := ?_) rfl rfl (by kernel_rfl) (by kernel_rfl) (by kernel_rfl) (fun _ _ _ h => h) (by kernel_rfl) ?_ (by assumption) ?_
            rotate_left
            · (intro w hSw; (try dsimp only at hSw); go_simp; try with_reducible rfl)
            try simp only [Act.put, List.setIfInBounds_toArray, List.set_cons_succ, List.set_cons_zero]
            refine takeH (i := 3) (d := (some 26)) (v := ?_) rfl rfl (by kernel_rfl) (by kernel_rfl) (by kernel_rfl) (fun _ _ _ h => h) (by kernel_rfl) ?_ (by assumption) ?_
            rotate_left
            · (intro w hSw; (try dsimp only at hSw); go_simp; try with_reducible rfl)
            try simp only [Act.put, List.setIfInBounds_toArray, List.set_cons_succ, List.set_cons_zero]
            refine takeH (i := 4) (d := (some 27)) (v := ?_) rfl rfl (by kernel_rfl) (by kernel_rfl) (by kernel_rfl) (fun _ _ _ h => h) (by kernel_rfl) ?_ (by assumption) ?_
            rotate_left
            · (intro w hSw; (try dsimp only at hSw); go_simp; try with_reducible rfl)
            try simp only [Act.put, List.setIfInBounds_toArray, List.set_cons_succ, List.set_cons_zero]
            refine takeH (i := 5) (d := (some 28)) (v := ?_) rfl rfl (by kernel_rfl) (by kernel_rfl) (by kernel_rfl) (fun _ _ _ h => h) (by kernel_rfl) ?_ (by assumption) ?_
            rotate_left
            · (intro w hSw; (try dsimp only at hSw); go_simp; try with_reducible rfl)
            try simp only [Act.put, List.setIfInBounds_toArray, List.set_cons_succ, List.set_cons_zero]
            refine takeH (i := 6) (d := (some 29)) (v := ?_) rfl rfl (by kernel_rfl) (by kernel_rfl) (by kernel_rfl) (fun _ _ _ h => h) (by kernel_rfl) ?_ (by assumption) ?_
            rotate_left
            · (intro w hSw; (try dsimp only at hSw); go_simp; try with_reducible rfl)
            try simp only [Act.put, List.setIfInBounds_toArray, List.set_cons_succ, List.set_cons_zero]
            refine wpAnyH_ready (rs := [7]) (by kernel_rfl) (by simp) ?_
            refine AllReadyH.cons rfl (fun K hK => ?_) AllReadyH.nil
            go_simp
            refine (specLess_ab (itAt li j).e.t (itAt li j).e.n ft fn _).mono ?_; rw [hF]; rintro e w3 ⟨rfl, hb3⟩; have hq3 := (hHeld.2.2.2.2).trans (hb3.mono (hHeld.2.2.2.2).size)
            refine hK.out _ _ ?_ (fun hHeld => ?_)
            · exact HS.out _ hq3
            clear hK K
            try simp only [Act.put, List.setIfInBounds_toArray, List.set_cons_succ, List.set_cons_zero]
            refine takeH (i := 8) (d := (some 31)) (v := ?_) rfl rfl (by kernel_rfl) (by kernel_rfl) (by kernel_rfl) (fun _ _ _ h => h) (by kernel_rfl) ?_ (by assumption) ?_
            rotate_left
            · (intro w hSw; (try dsimp only at hSw); go_simp; try with_reducible rfl)
            try simp only [Act.put, List.setIfInBounds_toArray, List.set_cons_succ, List.set_cons_zero]
            refine takeH (i := 9) (d := (some 32)) (v := ?_) rfl rfl (by kernel_rfl) (by kernel_rfl) (by kernel_rfl) (fun _ _ _ h => h) (by kernel_rfl) ?_ (by assumption) ?_
            rotate_left
            · (intro w hSw; (try dsimp only at hSw); go_simp; try with_reducible rfl)
            try simp only [Act.put, List.setIfInBounds_toArray, List.set_cons_succ, List.set_cons_zero]
            refine takeH (i := 10) (d := (some 33)) (v := ?_) rfl rfl (by kernel_rfl) (by kernel_rfl) (by kernel_rfl) (fun _ _ _ h => h) (by kernel_rfl) ?_ (by assumption) ?_
            rotate_left
            · (intro w hSw; (try dsimp only at hSw); go_simp; try with_reducible rfl)
            try simp only [Act.put, List.setIfInBounds_toArray, List.set_cons_succ, List.set_cons_zero]
            refine takeH (i := 11) (d := (some 34)) (v := ?_) rfl rfl (by kernel_rfl) (by kernel_rfl) (by kernel_rfl) (fun _ _ _ h => h) (by kernel_rfl) ?_ (by assumption) ?_
            rotate_left
            · (intro w hSw; (try dsimp only at hSw); go_simp; try with_reducible rfl)
            try simp only [Act.put, List.setIfInBounds_toArray, List.set_cons_succ, List.set_cons_zero]
            refine takeH (i := 12) (d := (some 35)) (v := ?_) rfl rfl (by kernel_rfl) (by kernel_rfl) (by kernel_rfl) (fun _ _ _ h => h) (by kernel_rfl) ?_ (by assumption) ?_
            rotate_left
            · (intro w hSw; (try dsimp only at hSw); go_simp; try with_reducible rfl)
            try simp only [Act.put, List.setIfInBounds_toArray, List.set_cons_succ, List.set_cons_zero]
            refine takeH (i := 13) (d := (some 36)) (v := ?_) rfl rfl (by kernel_rfl) (by kernel_rfl) (by kernel_rfl) (fun _ _ _ h => h) (by kernel_rfl) ?_ (by assumption) ?_
            rotate_left
            · (intro w hSw; (try dsimp only at hSw); go_simp; try with_reducible rfl)
            try simp only [Act.put, List.setIfInBounds_toArray, List.set_cons_succ, List.set_cons_zero]
            refine takeH (i := 14) (d := (some 37)) (v := ?_) rfl rfl (by kernel_rfl) (by kernel_rfl) (by kernel_rfl) (fun _ _ _ h => h) (by kernel_rfl) ?_ (by assumption) ?_
            rotate_left
            · (intro w hSw; (try dsimp only at hSw); go_simp; try with_reducible rfl)
            try simp only [Act.put, List.setIfInBounds_toArray, List.set_cons_succ, List.set_cons_zero]
            refine takeH (i := 15) (d := (some 38)) (v := ?_) rfl rfl (by kernel_rfl) (by kernel_rfl) (by kernel_rfl) (fun _ _ _ h => h) (by kernel_rfl) ?_ (by assumption) ?_
            rotate_left
            · (intro w hSw; (try dsimp only at hSw); go_simp; try with_reducible rfl)
            try simp only [Act.put, List.setIfInBounds_toArray, List.set_cons_succ, List.set_cons_zero]
            refine takeH (i := 16) (d := (some 39)) (v := ?_) rfl rfl (by kernel_rfl) (by kernel_rfl) (by kernel_rfl) (fun _ _ _ h => h) (by kernel_rfl) ?_ (by assumption) ?_
            rotate_left
            · (intro w hSw; (try dsimp only at hSw); go_simp; try with_reducible rfl)
            try simp only [Act.put, List.setIfInBounds_toArray, List.set_cons_succ, List.set_cons_zero]
            refine wpAnyH_ready (rs := [17]) (by kernel_rfl) (by simp) ?_
            refine AllReadyH.cons rfl (fun K hK => ?_) AllReadyH.nil
            go_simp
            refine (specLess_ab tt tn (itAt li j).e.t (itAt li j).e.n _).mono ?_; rw [hG]; rintro e w4 ⟨rfl, hb4⟩; have hq := (hHeld.2.2.2.2).trans (hb4.mono (hHeld.2.2.2.2).size)
            refine hK.out _ _ ?_ (fun hHeld => ?_)
            · exact HS.out _ hq
            clear hK K
            try simp only [Act.put, List.setIfInBounds_toArray, List.set_cons_succ, List.set_cons_zero]
            refine takeH (i := 18) (d := (some 41)) (v := ?_) rfl rfl (by kernel_rfl) (by kernel_rfl) (by kernel_rfl) (fun _ _ _ h => h) (by kernel_rfl) ?_ (by assumption) ?_
            rotate_left
            · (intro w hSw; (try dsimp only at hSw); go_simp; try with_reducible rfl)
            try simp only [Act.put, List.setIfInBounds_toArray, List.set_cons_succ, List.set_cons_zero]
            refine takeH (i := 19) (d := (some 42)) (v := ?_) rfl rfl (by kernel_rfl) (by kernel_rfl) (by kernel_rfl) (fun _ _ _ h => h) (by kernel_rfl) ?_ (by assumption) ?_
            rotate_left
            · (intro w hSw; (try dsimp only at hSw); go_simp; try with_reducible rfl)
            try simp only [Act.put, List.setIfInBounds_toArray, List.set_cons_succ, List.set_cons_zero]
            refine takeH (i := 20) (d := (some 43)) (v := ?_) rfl rfl (by kernel_rfl) (by kernel_rfl) (by kernel_rfl) (fun _ _ _ h => h) (by kernel_rfl) ?_ (by assumption) ?_
            rotate_left
            · (intro w hSw; (try dsimp only at hSw); go_simp; try with_reducible rfl)
            try simp only [Act.put, List.setIfInBounds_toArray, List.set_cons_succ, List.set_cons_zero]
            refine takeH (i := 21) (d := (some 44)) (v := ?_) rfl rfl (by kernel_rfl) (by kernel_rfl) (by kernel_rfl) (fun _ _ _ h => h) (by kernel_rfl) ?_ (by assumption) ?_
            rotate_left
            · (intro w hSw; (try dsimp only at hSw); go_simp; try with_reducible rfl)
            try simp only [Act.put, List.setIfInBounds_toArray, List.set_cons_succ, List.set_cons_zero]
            refine takeH (i := 22) (d := (some 45)) (v := ?_) rfl rfl (by kernel_rfl) (by kernel_rfl) (by kernel_rfl) (fun _ _ _ h => h) (by kernel_rfl) ?_ (by assumption) ?_
            rotate_left
            · (intro w hSw; (try dsimp only at hSw); go_simp; try with_reducible rfl)
            try simp only [Act.put, List.setIfInBounds_toArray, List.set_cons_succ, List.set_cons_zero]
            refine takeH (i := 23) (d := (some 46)) (v := ?_) rfl rfl (by kernel_rfl) (by kernel_rfl) (by kernel_rfl) (fun _ _ _ h => h) (by kernel_rfl) ?_ (by assumption) ?_
            rotate_left
            · (intro w hSw; (try dsimp only at hSw); go_simp; try with_reducible rfl)
            try simp only [Act.put, List.setIfInBounds_toArray, List.set_cons_succ, List.set_cons_zero]
            refine takeH (i := 24) (d := (some 47)) (v := ?_) rfl rfl (by kernel_rfl) (by kernel_rfl) (by kernel_rfl) (fun _ _ _ h => h) (by kernel_rfl) ?_ (by assumption) ?_
            rotate_left
            · (intro w hSw; (try dsimp only at hSw); go_simp; try with_reducible rfl)
            try simp only [Act.put, List.setIfInBounds_toArray, List.set_cons_succ, List.set_cons_zero]
            refine takeH (i := 25) (d := (some 48)) (v := ?_) rfl rfl (by kernel_rfl) (by kernel_rfl) (by kernel_rfl) (fun _ _ _ h => h) (by kernel_rfl) ?_ (by assumption) ?_
            rotate_left
            · (intro w hSw; (try dsimp only at hSw); go_simp; try with_reducible rfl)
            try simp only [Act.put, List.setIfInBounds_toArray, List.set_cons_succ, List.set_cons_zero]
            refine wpAnyH_done (by kernel_rfl) ?_ _
            clear hb3 hb4 hq3 hHeld
            cases hC : decide ((ys.length : Int) < c) with
            | false =>
              have HY2 : Hid (ys.map ItRow.e = (itRng (ft, fn) (tt, tn) c (li.take (j + 1))).map ItRow.e) := by
                show _ = _
                rw [HSUC.out]
                exact rngStep_map HY.out (by rw [hC]; simp)
              have HG4 : Hid _ := itG_up hG2 hq
              have HB4 : Hid _ := hbx.trans (hq.mono hbx.size)
              clear hq hG2 hbx
              try clear hHeld
              go_wp2_with fail
              go_roundw
              case rel => exact ⟨j + 1, ys, hlt, by go_num, HY2, .inr HOK.out, HG4.out, HB4.out⟩
              case measure => simp [intOf]; omega
            | true =>
              have HY2 : Hid (∀ y : ItRow, y.e = (itAt li j).e → (ys ++ [y]).map ItRow.e = (itRng (ft, fn) (tt, tn) c (li.take (j + 1))).map ItRow.e) := fun y hy => by
                rw [HSUC.out]
                exact rngStep_add HY.out hy (by rw [hC, hF, hG]; rfl)
              have hG4 := itG_up hG2 hq
              have hB4 := hbx.trans (hq.mono hbx.size)
              obtain ⟨⟨_, _, k2, _⟩, _, _, ⟨e0, e1, e2⟩, _⟩ := HS.out _ hq
              have hin := HIN.out _ hq
              clear hq hG2 hbx
              go_wp2_with fail
              clear k2 e0 e1 e2
              refine (l9Item_any (itAt li j).e _ _ hin hsm).mono ?_
              rintro e w5 ⟨⟨u, rfl, hou⟩, hb5⟩
              obtain ⟨au, cu, rfl⟩ := readsR_shape (ownR_reads prC_len hou)
              have hz5 := hb5.size
              have hbl : Below w5.heap.size w5 (w5.alloc (.cells #[.int .i64 (itAt li j).e.t, .int .i64 (itAt li j).e.n, .slice au (itAt li j).e.l.length cu] 59)) := (Below.refl _ w5).alloc (Nat.le_refl _) _
              have hU := ownR_kept (itG_kept hG4 hb5).rows hbl
              have hE := itsOwn_kept (itG_kept hG4 hb5).ins hbl
              have hX : PrOwn _ _ _ (ItRow.v ⟨(itAt li j).e, au, cu⟩) (itAt li j).e.l := ownR_kept hou hbl
              have hB5 := hB4.trans (hb5.mono hB4.size)
              have hB6 := hB5.trans (hbl.mono hB5.size)
              have hB5s := hB5.size
              have HZ5 : Hid _ := hz5
              clear hG4 hB4 hou hb5 hbl hz5 hB5 hin
              go_wp2_with (at_builtin; refine append_R (c := itC) rfl (.tmp 49) (.tmp 56) 31 rfl w0.heap.size 59 i0 _ 3 40 Try.underlying31 hi0 hz0 hz1 hz2 rfl (by decide) _ _ _ rfl hU.1 _ rfl [(⟨(itAt li j).e, au, cu⟩ : ItRow)] (it_one_at (heap_alloc_new w5 _)) itC_len itC_one (by unfold maxLen; simp; omega) (by simp; omega) (by simp; omega) ?_)
              intro u6 w6 ho6 hg6
              have HG6 : Hid _ := itG_add (x := (⟨(itAt li j).e, au, cu⟩ : ItRow)) (hi := w5.heap.size) hU hE hX HZ5.out (by simp) (by simpa using ho6) hg6
              have HB6 : Hid _ := hB6.grown hg6 hB6.size (fun k hk => (ownR_in hU k hk).1)
              clear ho6 hg6 hU hE hX hB6
              go_wp2_with fail
              go_roundw
              case rel => exact ⟨j + 1, _, hlt, by go_num, HY2.out (⟨(itAt li j).e, au, cu⟩ : ItRow) rfl, .inr HOK.out, HG6.out, HB6.out⟩
              case measure => simp [intOf]; omega
    · obtain rfl : j = li.length := by omega
      have hk1 : ¬ (li.length : Int) < (li.length : Int) := by omega
      have HF : Hid (ys.map ItRow.e = (itRngIf (stOkB t n li lg) (ft, fn) (tt, tn) c li).map ItRow.e) := rngIf_end HY.out HJ.out
      go_wp2_with fail
      go_ret
      refine ⟨⟨.slice ao ys.length co, ?_⟩, hB⟩
      first | exact ⟨ys, rfl, HF.out, itG_lower hG hB0.size (Nat.le_refl _)⟩ | exact ⟨rfl, ys, HF.out, itG_lower hG hB0.size (Nat.le_refl _)⟩
end Go.Proofs.Ytbkllceceaedpaa
