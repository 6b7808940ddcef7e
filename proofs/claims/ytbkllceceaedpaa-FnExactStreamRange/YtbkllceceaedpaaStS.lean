/- The program's StreamOk: all of it. -/
import Derived.Test.YtbkllceceaedpaaStR
namespace Go.Proofs.Ytbkllceceaedpaa
open Go.RowKit
set_option linter.unusedVariables false

theorem all_it_not {a b : Int} {l : List ItRow} {k : Nat} (hk : k < l.length) (h : itRowB a b (itAt l k).e = false) : l.all (fun x => itRowB a b x.e) = false := by
  rw [Bool.eq_false_iff]; intro hh
  have := List.all_eq_true.1 hh _ (itAt_mem hk)
  rw [h] at this; cases this
theorem all_it {a b : Int} {l : List ItRow} (h : ∀ j, j < l.length → itRowB a b (itAt l j).e = true) : l.all (fun x => itRowB a b x.e) = true := by
  rw [List.all_eq_true]; intro x hx
  obtain ⟨j, hj, rfl⟩ := List.getElem_of_mem hx
  have := h j hj; rwa [itAt_get hj] at this
theorem all_gp_not {a b : Int} {l : List GpRow} {k : Nat} (hk : k < l.length) (h : gpFullB a b (gpAt l k).e = false) : l.all (fun x => gpFullB a b x.e) = false := by
  rw [Bool.eq_false_iff]; intro hh
  have := List.all_eq_true.1 hh _ (gpAt_mem hk)
  rw [h] at this; cases this
theorem all_gp {a b : Int} {l : List GpRow} (h : ∀ j, j < l.length → gpFullB a b (gpAt l j).e = true) : l.all (fun x => gpFullB a b x.e) = true := by
  rw [List.all_eq_true]; intro x hx
  obtain ⟨j, hj, rfl⟩ := List.getElem_of_mem hx
  have := h j hj; rwa [gpAt_get hj] at this
set_option maxHeartbeats 16000000 in
set_option maxRecDepth 100000 in
theorem implStOk_any (t n : Int) (vi vg : Value) (li : List ItRow) (lg : List GpRow) (w : World) (hr : StReads w vi vg li lg) (hs : StSmall li lg) :
    Calls Try.prog 11 #[stV t n vi vg] w fun e w' => e = .returned (.bool (stOkB t n li lg)) ∧ Below w.heap.size w w' := by
  obtain ⟨ai, ci, rfl⟩ := readsR_shape hr.i.rows
  obtain ⟨ag, cg, rfl⟩ := readsR_shape hr.g.rows
  have hli := hs.i.len
  have hlg := hs.g.len
  obtain ⟨w0, hW⟩ : ∃ W, w.alloc (.cells #[.int .i64 t, .int .i64 n, .slice ai li.length ci, .slice ag lg.length cg] 34) = W := ⟨_, rfl⟩
  have hB0 : Below w.heap.size w w0 := by rw [← hW]; exact (Below.refl _ w).alloc (Nat.le_refl _) _
  have hz0 : w.heap.size < w0.heap.size := by rw [← hW]; simp
  have Q0 : Hid (w0.heap[w.heap.size]? = some (.cells #[.int .i64 t, .int .i64 n, .slice ai li.length ci, .slice ag lg.length cg] 34 (0, 0))) := by show _ = _; rw [← hW]; exact heap_alloc_new _ _
  obtain ⟨x0, x1, x2, x3⟩ := cells4 Q0.out
  go_enter Try.func11, Try.ntmps11
  go_wp2_with fail
  clear hW x0 x1 x2 x3
  refine (idOk_any t n _).mono ?_
  rintro e w1 ⟨rfl, hbr⟩
  have hB := hB0.trans (hbr.mono hB0.size)
  obtain ⟨x0, x1, x2, x3⟩ := cells4 ((hbr.block w.heap.size hz0).trans Q0.out)
  cases hI : idOkB t n with
  | false =>
    have HF : Hid (stOkB t n li lg = false) := by show _ = _; unfold stOkB; rw [hI]; rfl
    clear hI
    go_wp2_with fail
    go_ret
    exact ⟨by rw [HF.out]; rfl, hB⟩
  | true =>
    have HI : Hid (idOkB t n = true) := hI
    clear hI
    by_cases h16 : li.length ≤ 16
    · have h16' : (li.length : Int) ≤ 16 := by omega
      by_cases h3 : lg.length ≤ 3
      · have h3' : (lg.length : Int) ≤ 3 := by omega
        go_wp2_with fail
        clear x0 x1 x2 x3
        refine (items_any _ _ _ _ _ _ _ _ _).mono ?_
        rintro e w2 ⟨rfl, hb2⟩
        have hbr2 := hbr.trans (hb2.mono hbr.size)
        have hB2 := hB.trans (hb2.mono hB.size)
        clear hb2 hbr hB
        go_wp2_with fail
        refine (okItems_any _ li _ (its_kept hr.i hB2).rows hli).mono ?_
        rintro e w3 ⟨rfl, hb3⟩
        have hbr3 := hbr2.trans (hb3.mono hbr2.size)
        have hB3 := hB2.trans (hb3.mono hB2.size)
        clear hb3 hbr2 hB2
        obtain ⟨x0, x1, x2, x3⟩ := cells4 ((hbr3.block w.heap.size hz0).trans Q0.out)
        cases hAI : ascU idLessB li.length (itIds li) with
        | false =>
          have HF : Hid (stOkB t n li lg = false) := by show _ = _; unfold stOkB; rw [hAI]; simp
          clear hAI
          go_wp2_with fail
          go_ret
          exact ⟨by rw [HF.out]; rfl, hB3⟩
        | true =>
          have HAI : Hid (ascU idLessB li.length (itIds li) = true) := hAI
          clear hAI
          go_wp2_with fail
          clear x0 x1 x2 x3
          refine (groups_any _ _ _ _ _ _ _ _ _).mono ?_
          rintro e w4 ⟨rfl, hb4⟩
          have hbr4 := hbr3.trans (hb4.mono hbr3.size)
          have hB4 := hB3.trans (hb4.mono hB3.size)
          clear hb4 hbr3 hB3
          go_wp2_with fail
          refine (okGroups_any _ lg _ (gps_kept hr.g hB4).rows hlg).mono ?_
          rintro e w5 ⟨rfl, hb5⟩
          have hbr5 := hbr4.trans (hb5.mono hbr4.size)
          have hB5 := hB4.trans (hb5.mono hB4.size)
          clear hb5 hbr4 hB4
          obtain ⟨x0, x1, x2, x3⟩ := cells4 ((hbr5.block w.heap.size hz0).trans Q0.out)
          cases hAG : ascU ltN lg.length (gpNames lg) with
          | false =>
            have HF : Hid (stOkB t n li lg = false) := by show _ = _; unfold stOkB; rw [hAG]; simp
            clear hAG
            go_wp2_with fail
            go_ret
            exact ⟨by rw [HF.out]; rfl, hB5⟩
          | true =>
            have HAG : Hid (ascU ltN lg.length (gpNames lg) = true) := hAG
            clear hAG
            go_wp2_with fail
            clear x0 x1 x2 x3 hB5
            go_loopw [38] (fun i wr => ∃ k : Nat, k ≤ li.length ∧ i = .int .i64 (k : Int) ∧ Hid (∀ j, j < k → itRowB t n (itAt li j).e = true) ∧ Below w0.heap.size w0 wr) (fun i _ => li.length - (intOf i).toNat)
            case atStart => exact ⟨0, Nat.zero_le _, rfl, fun j hj => by omega, hbr5⟩
            case round =>
              clear hbr5
              obtain ⟨k, hk, rfl, HR, hbr⟩ := hrel
              have hB := hB0.trans (hbr.mono hB0.size)
              by_cases hlt : k < li.length
              · obtain ⟨b, off, rfl, hb, hnc, hcm, hc⟩ := it_some hr.i.rows (by omega)
                obtain ⟨c0, c1, c2⟩ := it_cells hc hB hb hlt
                have hk1 : (k : Int) < (li.length : Int) := by omega
                obtain ⟨W1, hW1⟩ : ∃ W, wr.alloc (.cells #[.int .i64 (itAt li k).e.t, .int .i64 (itAt li k).e.n, .slice (itAt li k).a (itAt li k).e.l.length (itAt li k).c] 59) = W := ⟨_, rfl⟩
                have hzw : wr.heap.size < W1.heap.size := by rw [← hW1]; simp
                have hba : Below wr.heap.size wr W1 := by rw [← hW1]; exact (Below.refl _ wr).alloc (Nat.le_refl _) _
                have QW : Hid (W1.heap[wr.heap.size]? = some (.cells #[.int .i64 (itAt li k).e.t, .int .i64 (itAt li k).e.n, .slice (itAt li k).a (itAt li k).e.l.length (itAt li k).c] 59 (0, 0))) := by show _ = _; rw [← hW1]; exact heap_alloc_new _ _
                have hB1 := hB.trans (hba.mono hB.size)
                have hbr1 := hbr.trans (hba.mono hbr.size)
                obtain ⟨y0, y1, y2⟩ := cells3 QW.out
                obtain ⟨g0, g1, -, -⟩ := cells4 ((hbr1.block w.heap.size hz0).trans Q0.out)
                clear hba hc hnc hcm
                go_wp2_with fail
                clear hW1 c0 c1 c2 g0 g1 y0 y1 y2
                refine (idWithin_any _ _ _ _ _).mono ?_
                rintro e w2 ⟨rfl, hb2⟩
                have hB2 := hB1.trans (hb2.mono hB1.size)
                have hbr2 := hbr1.trans (hb2.mono hbr1.size)
                obtain ⟨y0, y1, y2⟩ := cells3 ((hb2.block wr.heap.size hzw).trans QW.out)
                clear hb2 hB1 hbr1
                cases hWi : (idOkB (itAt li k).e.t (itAt li k).e.n && !idLessB (t, n) ((itAt li k).e.t, (itAt li k).e.n)) with
                | false =>
                  have HF : Hid (stOkB t n li lg = false) := by
                    show _ = _
                    unfold stOkB
                    rw [all_it_not hlt (by unfold itRowB; rw [hWi]; rfl)]; simp
                  clear hWi
                  go_wp2_with fail
                  go_ret
                  exact ⟨by rw [HF.out]; rfl, hB2⟩
                | true =>
                  have HWI : Hid _ := hWi
                  clear hWi
                  go_wp2_with fail
                  refine (itemFieldsOk_any _ (itAt li k).e.l _ (itIn_kept (hr.i.ins _ (itAt_mem hlt)) hB2) (hs.i.each _ (itAt_mem hlt)).len).mono ?_
                  rintro e w3 ⟨rfl, hb3⟩
                  have hB3 := hB2.trans (hb3.mono hB2.size)
                  have hbr3 := hbr2.trans (hb3.mono hbr2.size)
                  clear hb3 hB2 hbr2 y0 y1 y2
                  cases hFo : (decide (0 < (itAt li k).e.l.length) && prOkB (itAt li k).e.l) with
                  | false =>
                    have HF : Hid (stOkB t n li lg = false) := by
                      show _ = _
                      unfold stOkB
                      rw [all_it_not hlt (by unfold itRowB; rw [hFo, Bool.and_false])]; simp
                    clear hFo
                    go_wp2_with fail
                    go_ret
                    exact ⟨by rw [HF.out]; rfl, hB3⟩
                  | true =>
                    have HROW : Hid (itRowB t n (itAt li k).e = true) := by
                      show _ = _
                      unfold itRowB; rw [hFo, HWI.out]; rfl
                    clear hFo
                    go_wp2_with fail
                    go_roundw
                    case rel => exact ⟨k + 1, hlt, by go_num, fun j hj => by
                      by_cases e : j = k
                      · rw [e]; exact HROW.out
                      · exact HR.out j (by omega), hbr3⟩
                    case measure => simp [intOf]; omega
              · obtain rfl : k = li.length := by omega
                have hk1 : ¬ (li.length : Int) < (li.length : Int) := by omega
                have HALL : Hid (li.all (fun x => itRowB t n x.e) = true) := all_it (fun j hj => HR.out j hj)
                obtain ⟨x0, x1, x2, x3⟩ := cells4 ((hbr.block w.heap.size hz0).trans Q0.out)
                clear HR
                go_wp2_with fail
                clear x0 x1 x2 x3
                go_loopw [58] (fun i wr => ∃ k : Nat, k ≤ lg.length ∧ i = .int .i64 (k : Int) ∧ Hid (∀ j, j < k → gpFullB t n (gpAt lg j).e = true) ∧ Below w0.heap.size w0 wr) (fun i _ => lg.length - (intOf i).toNat)
                case atStart => exact ⟨0, Nat.zero_le _, rfl, fun j hj => by omega, hbr⟩
                case round =>
                  clear hB hbr
                  obtain ⟨k, hk, rfl, HR, hbr⟩ := hrel
                  have hB := hB0.trans (hbr.mono hB0.size)
                  by_cases hlt : k < lg.length
                  · obtain ⟨b, off, rfl, hb, hnc, hcm, hc⟩ := gp_some hr.g.rows (by omega)
                    obtain ⟨c0, c1, c2, c3⟩ := gp_cells hc hB hb hlt
                    have hk1 : (k : Int) < (lg.length : Int) := by omega
                    obtain ⟨W1, hW1⟩ : ∃ W, wr.alloc (.cells #[.string (gpAt lg k).e.name, .int .i64 (gpAt lg k).e.t, .int .i64 (gpAt lg k).e.n, .slice (gpAt lg k).a (gpAt lg k).e.l.length (gpAt lg k).c] 65) = W := ⟨_, rfl⟩
                    have hzw : wr.heap.size < W1.heap.size := by rw [← hW1]; simp
                    have hba : Below wr.heap.size wr W1 := by rw [← hW1]; exact (Below.refl _ wr).alloc (Nat.le_refl _) _
                    have QW : Hid (W1.heap[wr.heap.size]? = some (.cells #[.string (gpAt lg k).e.name, .int .i64 (gpAt lg k).e.t, .int .i64 (gpAt lg k).e.n, .slice (gpAt lg k).a (gpAt lg k).e.l.length (gpAt lg k).c] 65 (0, 0))) := by show _ = _; rw [← hW1]; exact heap_alloc_new _ _
                    have hB1 := hB.trans (hba.mono hB.size)
                    have hbr1 := hbr.trans (hba.mono hbr.size)
                    obtain ⟨y0, y1, y2, y3⟩ := cells4 QW.out
                    obtain ⟨g0, g1, -, -⟩ := cells4 ((hbr1.block w.heap.size hz0).trans Q0.out)
                    clear hba hc hnc hcm
                    go_wp2_with fail
                    clear hW1 c0 c1 c2 c3 g0 g1 y0 y1 y2 y3
                    refine (idWithin_any _ _ _ _ _).mono ?_
                    rintro e w2 ⟨rfl, hb2⟩
                    have hB2 := hB1.trans (hb2.mono hB1.size)
                    have hbr2 := hbr1.trans (hb2.mono hbr1.size)
                    obtain ⟨y0, y1, y2, y3⟩ := cells4 ((hb2.block wr.heap.size hzw).trans QW.out)
                    clear hb2 hB1 hbr1
                    cases hWi : (idOkB (gpAt lg k).e.t (gpAt lg k).e.n && !idLessB (t, n) ((gpAt lg k).e.t, (gpAt lg k).e.n)) with
                    | false =>
                      have HF : Hid (stOkB t n li lg = false) := by
                        show _ = _
                        unfold stOkB
                        rw [all_gp_not hlt (by unfold gpFullB; rw [hWi]; rfl)]; simp
                      clear hWi
                      go_wp2_with fail
                      go_ret
                      exact ⟨by rw [HF.out]; rfl, hB2⟩
                    | true =>
                      have HWI : Hid _ := hWi
                      clear hWi
                      go_wp2_with fail
                      refine (groupOk_any (gpAt lg k).e _ _ (gpIn_kept (hr.g.ins _ (gpAt_mem hlt)) hB2) (hs.g.each _ (gpAt_mem hlt))).mono ?_
                      rintro e w3 ⟨rfl, hb3⟩
                      have hB3 := hB2.trans (hb3.mono hB2.size)
                      have hbr3 := hbr2.trans (hb3.mono hbr2.size)
                      clear hb3 hB2 hbr2 y0 y1 y2 y3
                      cases hFo : gpRowB (gpAt lg k).e with
                      | false =>
                        have HF : Hid (stOkB t n li lg = false) := by
                          show _ = _
                          unfold stOkB
                          rw [all_gp_not hlt (by unfold gpFullB; rw [hFo, Bool.and_false])]; simp
                        clear hFo
                        go_wp2_with fail
                        go_ret
                        exact ⟨by rw [HF.out]; rfl, hB3⟩
                      | true =>
                        have HROW : Hid (gpFullB t n (gpAt lg k).e = true) := by
                          show _ = _
                          unfold gpFullB; rw [hFo, HWI.out]; rfl
                        clear hFo
                        go_wp2_with fail
                        go_roundw
                        case rel => exact ⟨k + 1, hlt, by go_num, fun j hj => by
                          by_cases e : j = k
                          · rw [e]; exact HROW.out
                          · exact HR.out j (by omega), hbr3⟩
                        case measure => simp [intOf]; omega
                  · have HF : Hid (stOkB t n li lg = true) := by
                      show _ = _
                      unfold stOkB
                      rw [HI.out, HAI.out, HAG.out, HALL.out, all_gp (fun j hj => HR.out j (by omega)), decide_eq_true h16, decide_eq_true h3]; rfl
                    have hk1 : ¬ (k : Int) < (lg.length : Int) := by omega
                    go_wp2_with fail
                    go_ret
                    exact ⟨by rw [HF.out]; rfl, hB⟩
      · have HF : Hid (stOkB t n li lg = false) := by show _ = _; unfold stOkB; rw [decide_eq_false h3]; simp
        have h3' : (3 : Int) < (lg.length : Int) := by omega
        clear h3
        go_wp2_with fail
        go_ret
        exact ⟨by rw [HF.out]; rfl, hB⟩
    · have HF : Hid (stOkB t n li lg = false) := by show _ = _; unfold stOkB; rw [decide_eq_false h16]; simp
      have h16' : (16 : Int) < (li.length : Int) := by omega
      clear h16
      go_wp2_with fail
      go_ret
      exact ⟨by rw [HF.out]; rfl, hB⟩
end Go.Proofs.Ytbkllceceaedpaa
