/- The program's StreamOk. -/
import Derived.Test.YtbkllceceaedpaaStQ
import Derived.Test.YtbkllceceaedpaaPrE
namespace Go.Proofs.Ytbkllceceaedpaa
open Go.RowKit
set_option linter.unusedVariables false

def wtRowB (a b : Int) (y : Wt) : Bool := (idOkB y.t y.n && !idLessB (a, b) (y.t, y.n)) && (keyOkB y.who && (inB y.at_ 0 1000000 && inB y.times 1 1000000000))
abbrev wtIds (l : List Wt) : Nat → Int × Int := fun j => ((wtAt l j).t, (wtAt l j).n)
abbrev itIds (l : List ItRow) : Nat → Int × Int := fun j => ((itAt l j).e.t, (itAt l j).e.n)
abbrev gpNames (l : List GpRow) : Nat → ByteArray := fun j => (gpAt l j).e.name
def gpRowB (x : GpE) : Bool := keyOkB x.name && (decide (x.l.length ≤ 16) && (ascU idLessB x.l.length (wtIds x.l) && x.l.all (wtRowB x.t x.n)))
def itRowB (a b : Int) (x : ItE) : Bool := (idOkB x.t x.n && !idLessB (a, b) (x.t, x.n)) && (decide (0 < x.l.length) && prOkB x.l)
def gpFullB (a b : Int) (x : GpE) : Bool := (idOkB x.t x.n && !idLessB (a, b) (x.t, x.n)) && gpRowB x
def stOkB (t n : Int) (li : List ItRow) (lg : List GpRow) : Bool :=
  idOkB t n && (decide (li.length ≤ 16) && (decide (lg.length ≤ 3) && (ascU idLessB li.length (itIds li) && (ascU ltN lg.length (gpNames lg) && (li.all (fun x => itRowB t n x.e) && lg.all (fun x => gpFullB t n x.e))))))
theorem stOkB_map {t n : Int} {li mi : List ItRow} {lg mg : List GpRow} (hi : li.map ItRow.e = mi.map ItRow.e) (hg : lg.map GpRow.e = mg.map GpRow.e) : stOkB t n li lg = stOkB t n mi mg := by
  have h1 : li.length = mi.length := by have := congrArg List.length hi; simpa using this
  have h2 : lg.length = mg.length := by have := congrArg List.length hg; simpa using this
  have h3 : ascU idLessB li.length (itIds li) = ascU idLessB mi.length (itIds mi) := ascU_congr h1 (fun j hj => by unfold itIds; rw [it_map_at hi hj])
  have h4 : ascU ltN lg.length (gpNames lg) = ascU ltN mg.length (gpNames mg) := ascU_congr h2 (fun j hj => by unfold gpNames; rw [gp_map_at hg hj])
  have h5 : li.all (fun x => itRowB t n x.e) = mi.all (fun x => itRowB t n x.e) := by
    have e : ∀ l : List ItRow, l.all (fun x => itRowB t n x.e) = (l.map ItRow.e).all (itRowB t n) := fun l => by rw [List.all_map]; rfl
    rw [e, e, hi]
  have h6 : lg.all (fun x => gpFullB t n x.e) = mg.all (fun x => gpFullB t n x.e) := by
    have e : ∀ l : List GpRow, l.all (fun x => gpFullB t n x.e) = (l.map GpRow.e).all (gpFullB t n) := fun l => by rw [List.all_map]; rfl
    rw [e, e, hg]
  unfold stOkB
  rw [h3, h4, h5, h6, h1, h2]

theorem items_any (t n : Int) (ai ag : Option Addr) (ni ci ng cg : Nat) (w : World) :
    Calls Try.prog 39 #[stV t n (.slice ai ni ci) (.slice ag ng cg)] w fun e w' => e = .returned (.agg #[.slice ai ni ci, .func (.func 71) #[] #[], .func (.func 72) #[] #[]]) ∧ Below w.heap.size w w' := by
  have hrs := fun (k : Nat) (w : World) (a : Addr) => run_store Try.prog w a (.func (.func k) #[] #[]) .plain rfl
  go_enter Try.func39, Try.ntmps39
  go_wp2_with fail
  have h := heap_alloc_new (w.alloc (.cells #[.int .i64 t, .int .i64 n, .slice ai ni ci, .slice ag ng cg] 34)) (.cells #[.slice ai ni ci, .func (.func 71) #[] #[], .func (.func 72) #[] #[]] 71)
  rw [World.size_alloc] at h
  refine bodyPost_ret (results_cell_row rfl _ _ (w.heap.size + 1) 71 _ (0, 0) _ rfl h Try.underlying71 rfl (by kernel_rfl)) rfl ?_
  exact ⟨rfl, ((Below.refl _ w).alloc (Nat.le_refl _) _).alloc (by simp) _⟩
theorem groups_any (t n : Int) (ai ag : Option Addr) (ni ci ng cg : Nat) (w : World) :
    Calls Try.prog 41 #[stV t n (.slice ai ni ci) (.slice ag ng cg)] w fun e w' => e = .returned (.agg #[.slice ag ng cg, .func (.func 73) #[] #[], .func (.func 74) #[] #[]]) ∧ Below w.heap.size w w' := by
  have hrs := fun (k : Nat) (w : World) (a : Addr) => run_store Try.prog w a (.func (.func k) #[] #[]) .plain rfl
  go_enter Try.func41, Try.ntmps41
  go_wp2_with fail
  have h := heap_alloc_new (w.alloc (.cells #[.int .i64 t, .int .i64 n, .slice ai ni ci, .slice ag ng cg] 34)) (.cells #[.slice ag ng cg, .func (.func 73) #[] #[], .func (.func 74) #[] #[]] 77)
  rw [World.size_alloc] at h
  refine bodyPost_ret (results_cell_row rfl _ _ (w.heap.size + 1) 77 _ (0, 0) _ rfl h Try.underlying77 rfl (by kernel_rfl)) rfl ?_
  exact ⟨rfl, ((Below.refl _ w).alloc (Nat.le_refl _) _).alloc (by simp) _⟩
theorem waits_any (s : ByteArray) (t n : Int) (ao : Option Addr) (k c : Nat) (w : World) :
    Calls Try.prog 77 #[.agg #[.string s, .int .i64 t, .int .i64 n, .slice ao k c]] w fun e w' => e = .returned (.agg #[.slice ao k c, .func (.func 96) #[] #[], .func (.func 72) #[] #[]]) ∧ Below w.heap.size w w' := by
  have hrs := fun (k : Nat) (w : World) (a : Addr) => run_store Try.prog w a (.func (.func k) #[] #[]) .plain rfl
  go_enter Try.func77, Try.ntmps77
  go_wp2_with fail
  have h := heap_alloc_new (w.alloc (.cells #[.string s, .int .i64 t, .int .i64 n, .slice ao k c] 65)) (.cells #[.slice ao k c, .func (.func 96) #[] #[], .func (.func 72) #[] #[]] 114)
  rw [World.size_alloc] at h
  refine bodyPost_ret (results_cell_row rfl _ _ (w.heap.size + 1) 114 _ (0, 0) _ rfl h Try.underlying114 rfl (by kernel_rfl)) rfl ?_
  exact ⟨rfl, ((Below.refl _ w).alloc (Nat.le_refl _) _).alloc (by simp) _⟩
set_option maxHeartbeats 1000000 in
theorem itemFieldsOk_any (v : Value) (l : List (ByteArray × ByteArray)) (w : World) (hr : PrReads w v l) (hlen : l.length ≤ 1048576) :
    Calls Try.prog 44 #[v] w fun e w' => e = .returned (.bool (decide (0 < l.length) && prOkB l)) ∧ Below w.heap.size w w' := by
  obtain ⟨ao, cap, rfl⟩ := readsR_shape hr
  by_cases h : 0 < l.length
  · have HF : Hid (decide (0 < l.length) = true) := decide_eq_true h
    have h1 : (0 : Int) < (l.length : Int) := by omega
    go_enter Try.func44, Try.ntmps44
    go_wp2_with fail
    refine (implFieldsOk_any _ l _ hr hlen).mono ?_
    rintro e w1 ⟨rfl, hb1⟩
    go_wp2_with fail
    go_ret
    exact ⟨by rw [HF.out]; rfl, hb1⟩
  · have HF : Hid (decide (0 < l.length) = false) := decide_eq_false h
    have h1 : ¬ (0 : Int) < (l.length : Int) := by omega
    clear h
    go_enter Try.func44, Try.ntmps44
    go_wp2_with fail
    go_ret
    exact ⟨by first | rfl | (rw [HF.out]; rfl), Below.refl _ _⟩
theorem all_wt_not {a b : Int} {l : List Wt} {k : Nat} (hk : k < l.length) (h : wtRowB a b (wtAt l k) = false) : l.all (wtRowB a b) = false := by
  rw [Bool.eq_false_iff]; intro hh
  have := List.all_eq_true.1 hh _ (wtAt_mem hk)
  rw [h] at this; cases this
theorem all_wt {a b : Int} {l : List Wt} (h : ∀ j, j < l.length → wtRowB a b (wtAt l j) = true) : l.all (wtRowB a b) = true := by
  rw [List.all_eq_true]; intro x hx
  obtain ⟨j, hj, rfl⟩ := List.getElem_of_mem hx
  have := h j hj; rwa [wtAt_get hj] at this
theorem cells4 {w : World} {B : Nat} {x y z u : Value} {t : TypeId} {fr : Nat × Nat} (h : w.heap[B]? = some (.cells #[x, y, z, u] t fr)) : w.cell? ⟨B, 0, none⟩ = some x ∧ w.cell? ⟨B, 1, none⟩ = some y ∧ w.cell? ⟨B, 2, none⟩ = some z ∧ w.cell? ⟨B, 3, none⟩ = some u :=
  ⟨cellAt_row h 0, cellAt_row h 1, cellAt_row h 2, cellAt_row h 3⟩
theorem cells5 {w : World} {B : Nat} {x y z u v : Value} {t : TypeId} {fr : Nat × Nat} (h : w.heap[B]? = some (.cells #[x, y, z, u, v] t fr)) : w.cell? ⟨B, 0, none⟩ = some x ∧ w.cell? ⟨B, 1, none⟩ = some y ∧ w.cell? ⟨B, 2, none⟩ = some z ∧ w.cell? ⟨B, 3, none⟩ = some u ∧ w.cell? ⟨B, 4, none⟩ = some v :=
  ⟨cellAt_row h 0, cellAt_row h 1, cellAt_row h 2, cellAt_row h 3, cellAt_row h 4⟩
set_option maxHeartbeats 8000000 in
theorem groupOk_any (x : GpE) (v : Value) (w : World) (hr : WtReads w v x.l) (hs : GpSmall x) :
    Calls Try.prog 45 #[gpV x v] w fun e w' => e = .returned (.bool (gpRowB x)) ∧ Below w.heap.size w w' := by
  obtain ⟨ao, cap, rfl⟩ := readsR_shape hr
  have hlen := hs.len
  have hnm := hs.name
  have HEACH : Hid (∀ y ∈ x.l, y.who.size ≤ 1048576) := hs.each
  clear hs
  obtain ⟨w0, hW⟩ : ∃ W, w.alloc (.cells #[.string x.name, .int .i64 x.t, .int .i64 x.n, .slice ao x.l.length cap] 65) = W := ⟨_, rfl⟩
  have hB0 : Below w.heap.size w w0 := by rw [← hW]; exact (Below.refl _ w).alloc (Nat.le_refl _) _
  have hz0 : w.heap.size < w0.heap.size := by rw [← hW]; simp
  have Q0 : Hid (w0.heap[w.heap.size]? = some (.cells #[.string x.name, .int .i64 x.t, .int .i64 x.n, .slice ao x.l.length cap] 65 (0, 0))) := by show _ = _; rw [← hW]; exact heap_alloc_new _ _
  obtain ⟨x0, x1, x2, x3⟩ := cells4 Q0.out
  cases hK : keyOkB x.name with
  | false =>
    have HF : Hid (gpRowB x = false) := by show _ = _; unfold gpRowB; rw [hK]; rfl
    go_enter Try.func45, Try.ntmps45
    go_wp2_with (go_at_call 76; refine (keyOk_any _ _ hnm).mono ?_; rw [hK]; rintro e w' ⟨rfl, rfl⟩)
    go_ret
    exact ⟨by rw [HF.out]; rfl, hB0⟩
  | true =>
    by_cases h16 : x.l.length ≤ 16
    · have h16' : (x.l.length : Int) ≤ 16 := by omega
      go_enter Try.func45, Try.ntmps45
      go_wp2_with (go_at_call 76; refine (keyOk_any _ _ hnm).mono ?_; rw [hK]; rintro e w' ⟨rfl, rfl⟩)
      clear hW x0 x1 x2 x3
      refine (waits_any _ _ _ _ _ _ _).mono ?_
      rintro e w1 ⟨rfl, hb1⟩
      have hB1 := hB0.trans (hb1.mono hB0.size)
      have hb01 := hb1
      clear hb1
      go_wp2_with fail
      refine (okWaits_any _ x.l _ (readsR_kept hr hB1) hlen).mono ?_
      rintro e w2 ⟨rfl, hb2⟩
      have hB2 := hB1.trans (hb2.mono hB1.size)
      have hbr := hb01.trans (hb2.mono hb01.size)
      clear hb2 hB1 hb01
      cases hA : ascU idLessB x.l.length (wtIds x.l) with
      | false =>
        have HF : Hid (gpRowB x = false) := by show _ = _; unfold gpRowB; rw [hA]; simp
        clear hA
        go_wp2_with fail
        go_ret
        exact ⟨by rw [HF.out]; rfl, hB2⟩
      | true =>
        have HA : Hid (ascU idLessB x.l.length (wtIds x.l) = true) := hA
        clear hA
        have HKK : Hid (keyOkB x.name = true) := hK
        obtain ⟨x0, x1, x2, x3⟩ := cells4 ((hbr.block w.heap.size hz0).trans Q0.out)
        clear hK
        go_wp2_with fail
        clear x0 x1 x2 x3 hB2
        go_loopw [24] (fun i wr => ∃ k : Nat, k ≤ x.l.length ∧ i = .int .i64 (k : Int) ∧ Hid (∀ j, j < k → wtRowB x.t x.n (wtAt x.l j) = true) ∧ Below w0.heap.size w0 wr) (fun i _ => x.l.length - (intOf i).toNat)
        case atStart => exact ⟨0, Nat.zero_le _, rfl, fun j hj => by omega, hbr⟩
        case round =>
          clear hbr
          obtain ⟨k, hk, rfl, HR, hbr⟩ := hrel
          have hB := hB0.trans (hbr.mono hB0.size)
          by_cases hlt : k < x.l.length
          · obtain ⟨b, off, rfl, hb, hnc, hcm, hc⟩ := wt_some hr (by omega)
            obtain ⟨c0, c1, c2, c3, c4⟩ := wt_cells hc hB hb hlt
            have hk1 : (k : Int) < (x.l.length : Int) := by omega
            have HY : Hid ((wtAt x.l k).who.size ≤ 1048576) := HEACH.out _ (wtAt_mem hlt)
            have hyl := HY.out
            obtain ⟨W1, hW1⟩ : ∃ W, wr.alloc (.cells #[.int .i64 (wtAt x.l k).t, .int .i64 (wtAt x.l k).n, .string (wtAt x.l k).who, .int .i64 (wtAt x.l k).at_, .int .i64 (wtAt x.l k).times] 92) = W := ⟨_, rfl⟩
            have hzw : wr.heap.size < W1.heap.size := by rw [← hW1]; simp
            have hba : Below wr.heap.size wr W1 := by rw [← hW1]; exact (Below.refl _ wr).alloc (Nat.le_refl _) _
            have QW : Hid (W1.heap[wr.heap.size]? = some (.cells #[.int .i64 (wtAt x.l k).t, .int .i64 (wtAt x.l k).n, .string (wtAt x.l k).who, .int .i64 (wtAt x.l k).at_, .int .i64 (wtAt x.l k).times] 92 (0, 0))) := by show _ = _; rw [← hW1]; exact heap_alloc_new _ _
            have hB1 := hB.trans (hba.mono hB.size)
            have hbr1 := hbr.trans (hba.mono hbr.size)
            obtain ⟨y0, y1, y2, y3, y4⟩ := cells5 QW.out
            obtain ⟨-, g1, g2, -⟩ := cells4 ((hbr1.block w.heap.size hz0).trans Q0.out)
            clear hba hc hnc hcm
            cases hWi : (idOkB (wtAt x.l k).t (wtAt x.l k).n && !idLessB (x.t, x.n) ((wtAt x.l k).t, (wtAt x.l k).n)) with
            | false =>
              have HF : Hid (gpRowB x = false) := by
                show _ = _
                unfold gpRowB
                rw [all_wt_not hlt (by unfold wtRowB; rw [hWi]; rfl)]
                simp
              go_wp2_with fail
              clear hW1 c0 c1 c2 c3 c4 g1 g2 y0 y1 y2 y3 y4
              refine (idWithin_any _ _ _ _ _).mono ?_
              rw [hWi]
              rintro e w2 ⟨rfl, hb2⟩
              have hB2 := hB1.trans (hb2.mono hB1.size)
              have hbr2 := hbr1.trans (hb2.mono hbr1.size)
              obtain ⟨y0, y1, y2, y3, y4⟩ := cells5 ((hb2.block wr.heap.size hzw).trans QW.out)
              clear hb2
              go_wp2_with (first | (go_at_call 76; refine (keyOk_any _ _ HY.out).mono ?_; rw [hKe]; rintro e w' ⟨rfl, rfl⟩) | (go_at_call 70; refine (timeOk_any _ _).mono ?_; rw [hTi]; rintro e w' ⟨rfl, rfl⟩))
              go_ret
              exact ⟨by rw [HF.out]; rfl, hB2⟩
            | true =>
              cases hKe : keyOkB (wtAt x.l k).who with
              | false =>
                have HF : Hid (gpRowB x = false) := by
                  show _ = _
                  unfold gpRowB
                  rw [all_wt_not hlt (by unfold wtRowB; rw [hWi, hKe]; rfl)]
                  simp
                go_wp2_with fail
                clear hW1 c0 c1 c2 c3 c4 g1 g2 y0 y1 y2 y3 y4
                refine (idWithin_any _ _ _ _ _).mono ?_
                rw [hWi]
                rintro e w2 ⟨rfl, hb2⟩
                have hB2 := hB1.trans (hb2.mono hB1.size)
                have hbr2 := hbr1.trans (hb2.mono hbr1.size)
                obtain ⟨y0, y1, y2, y3, y4⟩ := cells5 ((hb2.block wr.heap.size hzw).trans QW.out)
                clear hb2
                go_wp2_with (first | (go_at_call 76; refine (keyOk_any _ _ HY.out).mono ?_; rw [hKe]; rintro e w' ⟨rfl, rfl⟩) | (go_at_call 70; refine (timeOk_any _ _).mono ?_; rw [hTi]; rintro e w' ⟨rfl, rfl⟩))
                go_ret
                exact ⟨by rw [HF.out]; rfl, hB2⟩
              | true =>
                cases hTi : inB (wtAt x.l k).at_ 0 1000000 with
                | false =>
                  have HF : Hid (gpRowB x = false) := by
                    show _ = _
                    unfold gpRowB
                    rw [all_wt_not hlt (by unfold wtRowB; rw [hWi, hKe, hTi]; rfl)]
                    simp
                  go_wp2_with fail
                  clear hW1 c0 c1 c2 c3 c4 g1 g2 y0 y1 y2 y3 y4
                  refine (idWithin_any _ _ _ _ _).mono ?_
                  rw [hWi]
                  rintro e w2 ⟨rfl, hb2⟩
                  have hB2 := hB1.trans (hb2.mono hB1.size)
                  have hbr2 := hbr1.trans (hb2.mono hbr1.size)
                  obtain ⟨y0, y1, y2, y3, y4⟩ := cells5 ((hb2.block wr.heap.size hzw).trans QW.out)
                  clear hb2
                  go_wp2_with (first | (go_at_call 76; refine (keyOk_any _ _ HY.out).mono ?_; rw [hKe]; rintro e w' ⟨rfl, rfl⟩) | (go_at_call 70; refine (timeOk_any _ _).mono ?_; rw [hTi]; rintro e w' ⟨rfl, rfl⟩))
                  go_ret
                  exact ⟨by rw [HF.out]; rfl, hB2⟩
                | true =>
                  by_cases ht1 : (wtAt x.l k).times < 1
                  · have HT : inB (wtAt x.l k).times 1 1000000000 = false := by unfold inB; simp; omega
                    have HF : Hid (gpRowB x = false) := by
                      show _ = _
                      unfold gpRowB
                      rw [all_wt_not hlt (by unfold wtRowB; rw [HT]; simp)]
                      simp
                    go_wp2_with fail
                    clear hW1 c0 c1 c2 c3 c4 g1 g2 y0 y1 y2 y3 y4
                    refine (idWithin_any _ _ _ _ _).mono ?_
                    rw [hWi]
                    rintro e w2 ⟨rfl, hb2⟩
                    have hB2 := hB1.trans (hb2.mono hB1.size)
                    have hbr2 := hbr1.trans (hb2.mono hbr1.size)
                    obtain ⟨y0, y1, y2, y3, y4⟩ := cells5 ((hb2.block wr.heap.size hzw).trans QW.out)
                    clear hb2
                    go_wp2_with (first | (go_at_call 76; refine (keyOk_any _ _ HY.out).mono ?_; rw [hKe]; rintro e w' ⟨rfl, rfl⟩) | (go_at_call 70; refine (timeOk_any _ _).mono ?_; rw [hTi]; rintro e w' ⟨rfl, rfl⟩))
                    go_ret
                    exact ⟨by rw [HF.out]; rfl, hB2⟩
                  · by_cases ht2 : (wtAt x.l k).times ≤ 1000000000
                    · have HROW : Hid (wtRowB x.t x.n (wtAt x.l k) = true) := by
                        show _ = _
                        unfold wtRowB; rw [hWi, hKe, hTi]; unfold inB; simp; omega
                      go_wp2_with fail
                      clear hW1 c0 c1 c2 c3 c4 g1 g2 y0 y1 y2 y3 y4
                      refine (idWithin_any _ _ _ _ _).mono ?_
                      rw [hWi]
                      rintro e w2 ⟨rfl, hb2⟩
                      have hB2 := hB1.trans (hb2.mono hB1.size)
                      have hbr2 := hbr1.trans (hb2.mono hbr1.size)
                      obtain ⟨y0, y1, y2, y3, y4⟩ := cells5 ((hb2.block wr.heap.size hzw).trans QW.out)
                      clear hb2
                      go_wp2_with (first | (go_at_call 76; refine (keyOk_any _ _ HY.out).mono ?_; rw [hKe]; rintro e w' ⟨rfl, rfl⟩) | (go_at_call 70; refine (timeOk_any _ _).mono ?_; rw [hTi]; rintro e w' ⟨rfl, rfl⟩))
                      go_roundw
                      case rel => exact ⟨k + 1, hlt, by go_num, fun j hj => by
                        by_cases e : j = k
                        · rw [e]; exact HROW.out
                        · exact HR.out j (by omega), hbr2⟩
                      case measure => simp [intOf]; omega
                    · have HT : inB (wtAt x.l k).times 1 1000000000 = false := by unfold inB; simp; omega
                      have ht3 : 1000000000 < (wtAt x.l k).times := by omega
                      clear ht2
                      have HF : Hid (gpRowB x = false) := by
                        show _ = _
                        unfold gpRowB
                        rw [all_wt_not hlt (by unfold wtRowB; rw [HT]; simp)]
                        simp
                      go_wp2_with fail
                      clear hW1 c0 c1 c2 c3 c4 g1 g2 y0 y1 y2 y3 y4
                      refine (idWithin_any _ _ _ _ _).mono ?_
                      rw [hWi]
                      rintro e w2 ⟨rfl, hb2⟩
                      have hB2 := hB1.trans (hb2.mono hB1.size)
                      have hbr2 := hbr1.trans (hb2.mono hbr1.size)
                      obtain ⟨y0, y1, y2, y3, y4⟩ := cells5 ((hb2.block wr.heap.size hzw).trans QW.out)
                      clear hb2
                      go_wp2_with (first | (go_at_call 76; refine (keyOk_any _ _ HY.out).mono ?_; rw [hKe]; rintro e w' ⟨rfl, rfl⟩) | (go_at_call 70; refine (timeOk_any _ _).mono ?_; rw [hTi]; rintro e w' ⟨rfl, rfl⟩))
                      go_ret
                      exact ⟨by rw [HF.out]; rfl, hB2⟩
          · have HF : Hid (gpRowB x = true) := by
              show _ = _
              unfold gpRowB
              rw [HKK.out, HA.out, all_wt (fun j hj => HR.out j (by omega)), decide_eq_true h16]; rfl
            have hk1 : ¬ (k : Int) < (x.l.length : Int) := by omega
            go_wp2_with fail
            go_ret
            exact ⟨by rw [HF.out]; rfl, hB⟩
    · have HF : Hid (gpRowB x = false) := by show _ = _; unfold gpRowB; rw [decide_eq_false h16]; simp
      have h16' : (16 : Int) < (x.l.length : Int) := by omega
      go_enter Try.func45, Try.ntmps45
      go_wp2_with (go_at_call 76; refine (keyOk_any _ _ hnm).mono ?_; rw [hK]; rintro e w' ⟨rfl, rfl⟩)
      go_ret
      exact ⟨by rw [HF.out]; rfl, hB0⟩
end Go.Proofs.Ytbkllceceaedpaa
