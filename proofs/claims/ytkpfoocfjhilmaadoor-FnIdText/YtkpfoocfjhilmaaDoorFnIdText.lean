/- Proved: of every drawn two ids and text, an id is read back from its text, and of two that differ just one is ahead of the other one; IdPut, IdGet and IdLess answer as their models. No condition but that the listed tables of math/bits and internal/strconv hold what the program's text lays (the card ties them). -/
import Derived.Test.YtkpfoocfjhilmaaDoorDrJ
import Derived.Test.YtkpfoocfjhilmaaDoorCards
import Derived.Test.YtkpfoocfjhilmaaDoorTie
import Derived.ProofKit
import Derived.OpenShut
import Derived.ShutString
import Derived.ChangeOld
import Derived.Below
import Derived.LaidMore
import Derived.Lay
import Derived.SevenTiedAt
import Derived.Stop.Joined
import Derived.Stop.LaidErr
namespace Go.Proofs.YtkpfoocfjhilmaaDoor.fnIdText
open Go.ChangeShapes Go.WideShapes Go.ChangeAt Go.RowKit
open Go.ChangeMaps (open_string shut_string)
open num
set_option linter.unusedVariables false

theorem own : ownKnob Tryd.prog.godebug = none := by kernel_rfl
theorem laidOut : laidOutB Tryd.prog = true := by kernel_rfl
theorem tabOf {W : World} (h : laidMetH Tryd.prog Rows.fnIdTextRow.laid W) : Tab W := by
  rw [MakeChecks.laidMetH_plain _ _ _ (by kernel_rfl)] at h
  exact Lib.tabIs_of_head (k := .u64) (zs := Lib.pow10Tab) (g := 1) (t := 69) (e := 60) (n := 20) (by kernel_rfl) (by kernel_rfl) Tryd.underlying69 Tryd.underlying60 (by kernel_rfl) (by kernel_rfl) (laidMet.tail (laidMet.tail h))

theorem less_asym {a b c d : Int} (h : idLessB (a, b) (c, d) = true) : idLessB (c, d) (a, b) = false := by
  unfold idLessB at *
  simp at h ⊢
  omega
theorem less_none {a b c d : Int} (h : idLessB (a, b) (c, d) = false) (h2 : idLessB (c, d) (a, b) = false) : a = c ∧ b = d := by
  unfold idLessB at *
  simp at h h2
  omega
set_option maxRecDepth 100000 in
set_option maxHeartbeats 8000000 in
theorem walk (v0 : Value) (zs0 : List Int) (v1 : Value) (zs1 : List Int) (w : World) (h0 : IsBytes w v0 zs0) (h1 : IsBytes w v1 zs1) (ht : Tab w) :
    Calls Tryd.prog 3 #[v0, v1] w fun e w' => e = .returned (.bool true) ∧ Below w.heap.size w w' := by
  have hI0 := h0
  have hI1 := h1
  obtain ⟨ao0, cap0, rfl, hlc0, hcm0, hzb0, hz0⟩ := h0
  obtain ⟨ao1, cap1, rfl, hlc1, hcm1, hzb1, hz1⟩ := h1
  unfold maxLen at hcm0 hcm1
  clear hz0 hzb0 hz1 hzb1
  rcases Int.lt_or_le (1048576 : Int) (zs0.length : Int) with hx0 | hx0
  · go_enter Tryd.func3, Tryd.ntmps3
    go_wp2_with fail
    go_ret
    exact ⟨rfl, Below.refl _ _⟩
  rcases Int.lt_or_le (1048576 : Int) (zs1.length : Int) with hx1 | hx1
  · go_enter Tryd.func3, Tryd.ntmps3
    go_wp2_with fail
    go_ret
    exact ⟨rfl, Below.refl _ _⟩
  go_enter Tryd.func3, Tryd.ntmps3
  go_wp2_with fail
  refine (drawIds_any _ zs0 _ hI0).mono ?_
  rintro e w1 ⟨a, b, c, d, rfl, ha, hb, hc, hd, hB1⟩
  obtain ⟨hback, hemp, hsz⟩ := back_of ha hb
  obtain ⟨s, hs⟩ : ∃ s, idT a b = s := ⟨_, rfl⟩
  rw [hs] at hback hemp hsz
  have HS : Hid (idT a b = s) := hs
  have hbt := bothF s hsz
  rw [hback] at hbt
  clear hI0 ha hb hc hd hs
  go_wp2_with fail
  have HK := two_boxes w1 (.int .i64 a) (.int .i64 b) (.int .i64 c) (.int .i64 d) 24 24
  have hB2 : Below w1.heap.size w1 ((w1.alloc (.cells #[.int .i64 a, .int .i64 b] 24)).alloc (.cells #[.int .i64 c, .int .i64 d] 24)) := ((Below.refl _ w1).alloc (Nat.le_refl _) _).alloc (by simp) _
  obtain ⟨w2, hW⟩ : ∃ W, (w1.alloc (.cells #[.int .i64 a, .int .i64 b] 24)).alloc (.cells #[.int .i64 c, .int .i64 d] 24) = W := ⟨_, rfl⟩
  rw [hW] at HK hB2 ⊢
  clear hW
  have HK : Hid _ := HK
  have HB2 := hB1.trans (hB2.mono hB1.size)
  clear hB2
  refine (implIdPut_any a b _ (tab_kept ht HB2)).mono ?_
  rw [HS.out]
  rintro e w3 ⟨rfl, q3⟩
  have hk := HK.out _ q3
  have ka0 := hk.1
  have ka1 := hk.2.1
  have kc0 := hk.2.2.1
  have kc1 := hk.2.2.2.1
  clear hk
  go_wp2_with fail
  cases hok : idOkB a b with
  | true =>
    rw [hok, if_pos rfl] at hbt
    have HG : Hid (∀ w, Calls Tryd.prog 6 #[.string s] w fun e w' => e = .returned (.tuple #[.agg #[.int .i64 a, .int .i64 b], .bool true]) ∧ Below w.heap.size w w') := hbt.2
    have hne0 : ¬ s.toList = [] := fun h => by
      have h3 : s.data.toList = [] := by rwa [Lib.toList_data] at h
      have h4 : s.size = 0 := by have := congrArg List.length h3; simpa using this
      have := hemp.1 h4; rw [hok] at this; cases this
    have hem : s.toList.isEmpty = false := by rw [Bool.eq_false_iff]; intro e; rw [List.isEmpty_iff] at e; exact hne0 e
    clear hbt hemp hback hne0
    refine (HG.out _).mono ?_
    rintro e w4 ⟨rfl, hb4⟩
    have q4 := q3.trans (hb4.mono q3.size)
    clear ka0 ka1 kc0 kc1 hb4 q3
    have X5 : Hid ((w4.alloc (.cells #[.int .i64 a, .int .i64 b] 24)).heap[w4.heap.size]? = some (.cells #[.int .i64 a, .int .i64 b] 24 (0, 0))) := heap_alloc_new _ _
    have Xlt : w4.heap.size < (w4.alloc (.cells #[.int .i64 a, .int .i64 b] 24)).heap.size := by simp
    have q5 := q4.trans (((Below.refl _ w4).alloc (Nat.le_refl _) (.cells #[.int .i64 a, .int .i64 b] 24)).mono q4.size)
    obtain ⟨X, hX⟩ : ∃ X, X = w4.heap.size := ⟨_, rfl⟩
    have hk := HK.out _ q5
    have ka0 := hk.1
    have ka1 := hk.2.1
    have kc0 := hk.2.2.1
    have kc1 := hk.2.2.2.1
    clear hk
    go_wp2_with fail
    obtain ⟨w5, hW⟩ : ∃ W, w4.alloc (.cells #[.int .i64 a, .int .i64 b] 24) = W := ⟨_, rfl⟩
    rw [hW] at X5 Xlt q5 ⊢
    rw [← hX] at X5 Xlt ⊢
    clear hW hX q4 ka0 ka1 kc0 kc1
    refine (implIdLess_ints a b c d _).mono ?_
    rintro e w6 ⟨rfl, hb6⟩
    have q6 := q5.trans (hb6.mono q5.size)
    have X6 : Hid _ := (hb6.block X Xlt).trans X5.out
    have Xlt6 := Nat.lt_of_lt_of_le Xlt hb6.size
    clear hb6 q5 X5 Xlt
    have hk := HK.out _ q6
    have ka0 := hk.1
    have ka1 := hk.2.1
    have kc0 := hk.2.2.1
    have kc1 := hk.2.2.2.1
    clear hk
    go_wp2_with fail
    refine (specIdPut_any a b _).mono ?_
    rw [HS.out]
    rintro e w7 ⟨rfl, hb7⟩
    have q7 := q6.trans (hb7.mono q6.size)
    have X7 : Hid _ := (hb7.block X Xlt6).trans X6.out
    have Xlt7 := Nat.lt_of_lt_of_le Xlt6 hb7.size
    clear hb7 q6 X6 Xlt6 ka0 ka1 kc0 kc1
    have hk := HK.out _ q7
    have ka0 := hk.1
    have ka1 := hk.2.1
    have kc0 := hk.2.2.1
    have kc1 := hk.2.2.2.1
    clear hk
    have hx7 := res_cells X7.out
    have xx0 := hx7.1
    have xx1 := hx7.2
    clear hx7
    go_wp2_with fail
    cases hl : idLessB (a, b) (c, d) with
    | true =>
      have hl2 := less_asym hl
      refine (specIdLess_ints a b c d _).mono ?_
      rw [hl]
      rintro e w8 ⟨rfl, hb8⟩
      have q8 := q7.trans (hb8.mono q7.size)
      clear hb8 q7 X7 Xlt7 ka0 ka1 kc0 kc1 xx0 xx1
      have hk := HK.out _ q8
      have ka0 := hk.1
      have ka1 := hk.2.1
      have kc0 := hk.2.2.1
      have kc1 := hk.2.2.2.1
      clear hk
      go_wp2_with fail
      refine (implIdLess_ints c d a b _).mono ?_
      rw [hl2]
      rintro e w9 ⟨rfl, hb9⟩
      have q9 := q8.trans (hb9.mono q8.size)
      clear hb9 q8 ka0 ka1 kc0 kc1
      have HC := HB2.trans (q9.mono HB2.size)
      clear HK hl hl2 HG HB2 q9
      go_wp2_with fail
      refine (drawText_any _ zs1 _ (bytes_kept hI1 HC)).mono ?_
      rintro e w10 ⟨s2, rfl, hs2, hb10⟩
      have HC2 := HC.trans (hb10.mono HC.size)
      obtain ⟨htx, hsz2⟩ := text_of hs2
      have hbt2 := bothF s2 hsz2
      obtain ⟨⟨⟨x, y⟩, k⟩, hF⟩ : ∃ F, idGetF s2 = F := ⟨_, rfl⟩
      rw [hF] at htx hbt2
      have HF1 : Hid (∀ w, Calls Tryd.prog 11 #[.string s2] w fun e w' => e = .returned (.tuple #[.agg #[.int .i64 x, .int .i64 y], .bool k]) ∧ Below w.heap.size w w') := hbt2.1
      have HF2 : Hid (∀ w, Calls Tryd.prog 6 #[.string s2] w fun e w' => e = .returned (.tuple #[.agg #[.int .i64 x, .int .i64 y], .bool k]) ∧ Below w.heap.size w w') := hbt2.2
      have HTX : Hid (k = true → idT x y = s2) := htx
      clear hbt2 hF hs2 hsz2 hb10 HC htx
      go_wp2_with fail
      refine (HF2.out _).mono ?_
      rintro e w11 ⟨rfl, hb11⟩
      have HC3 := HC2.trans (hb11.mono HC2.size)
      have Y12 : Hid ((w11.alloc (.cells #[.int .i64 x, .int .i64 y] 24)).heap[w11.heap.size]? = some (.cells #[.int .i64 x, .int .i64 y] 24 (0, 0))) := heap_alloc_new _ _
      have Ylt : w11.heap.size < (w11.alloc (.cells #[.int .i64 x, .int .i64 y] 24)).heap.size := by simp
      have HC4 := HC3.trans (((Below.refl _ w11).alloc (Nat.le_refl _) (.cells #[.int .i64 x, .int .i64 y] 24)).mono HC3.size)
      clear hb11 HC2 HC3
      go_wp2_with fail
      obtain ⟨w12, hW⟩ : ∃ W, w11.alloc (.cells #[.int .i64 x, .int .i64 y] 24) = W := ⟨_, rfl⟩
      rw [hW] at Y12 Ylt HC4 ⊢
      clear hW
      refine (HF1.out _).mono ?_
      rintro e w13 ⟨rfl, hb13⟩
      have Y13 : Hid _ := (hb13.block w11.heap.size Ylt).trans Y12.out
      have Ylt3 := Nat.lt_of_lt_of_le Ylt hb13.size
      have HC5 := HC4.trans (hb13.mono HC4.size)
      have HC6 := HC5.trans (((Below.refl _ w13).alloc (Nat.le_refl _) (.cells #[.int .i64 x, .int .i64 y] 24)).mono HC5.size)
      have hp := res_cells Y13.out
      have hp0 := hp.1
      have hp1 := hp.2
      have hq := res_cells ((Below.heap_alloc w13 (.cells #[.int .i64 x, .int .i64 y] 24) _ Ylt3).trans Y13.out)
      have hq0 := hq.1
      have hq1 := hq.2
      clear hp hq hb13 HC4 Y12 Ylt
      cases k with
      | false =>
        go_wp2_with fail
        go_ret
        exact ⟨rfl, HC6⟩
      | true =>
        have HT2 : Hid (idT x y = s2) := HTX.out rfl
        go_wp2_with fail
        refine (implIdPut_any x y _ (tab_kept ht HC6)).mono ?_
        rw [HT2.out]
        rintro e w15 ⟨rfl, hb15⟩
        go_wp2_with fail
        go_ret
        exact ⟨rfl, HC6.trans (hb15.mono HC6.size)⟩
    | false =>
      cases hl2 : idLessB (c, d) (a, b) with
      | true =>
        refine (specIdLess_ints a b c d _).mono ?_
        rw [hl]
        rintro e w8 ⟨rfl, hb8⟩
        have q8 := q7.trans (hb8.mono q7.size)
        clear hb8 q7 X7 Xlt7 ka0 ka1 kc0 kc1 xx0 xx1
        have hk := HK.out _ q8
        have ka0 := hk.1
        have ka1 := hk.2.1
        have kc0 := hk.2.2.1
        have kc1 := hk.2.2.2.1
        clear hk
        go_wp2_with fail
        refine (implIdLess_ints c d a b _).mono ?_
        rw [hl2]
        rintro e w9 ⟨rfl, hb9⟩
        have q9 := q8.trans (hb9.mono q8.size)
        clear hb9 q8 ka0 ka1 kc0 kc1
        have HC := HB2.trans (q9.mono HB2.size)
        clear HK hl hl2 HG HB2 q9
        go_wp2_with fail
        refine (drawText_any _ zs1 _ (bytes_kept hI1 HC)).mono ?_
        rintro e w10 ⟨s2, rfl, hs2, hb10⟩
        have HC2 := HC.trans (hb10.mono HC.size)
        obtain ⟨htx, hsz2⟩ := text_of hs2
        have hbt2 := bothF s2 hsz2
        obtain ⟨⟨⟨x, y⟩, k⟩, hF⟩ : ∃ F, idGetF s2 = F := ⟨_, rfl⟩
        rw [hF] at htx hbt2
        have HF1 : Hid (∀ w, Calls Tryd.prog 11 #[.string s2] w fun e w' => e = .returned (.tuple #[.agg #[.int .i64 x, .int .i64 y], .bool k]) ∧ Below w.heap.size w w') := hbt2.1
        have HF2 : Hid (∀ w, Calls Tryd.prog 6 #[.string s2] w fun e w' => e = .returned (.tuple #[.agg #[.int .i64 x, .int .i64 y], .bool k]) ∧ Below w.heap.size w w') := hbt2.2
        have HTX : Hid (k = true → idT x y = s2) := htx
        clear hbt2 hF hs2 hsz2 hb10 HC htx
        go_wp2_with fail
        refine (HF2.out _).mono ?_
        rintro e w11 ⟨rfl, hb11⟩
        have HC3 := HC2.trans (hb11.mono HC2.size)
        have Y12 : Hid ((w11.alloc (.cells #[.int .i64 x, .int .i64 y] 24)).heap[w11.heap.size]? = some (.cells #[.int .i64 x, .int .i64 y] 24 (0, 0))) := heap_alloc_new _ _
        have Ylt : w11.heap.size < (w11.alloc (.cells #[.int .i64 x, .int .i64 y] 24)).heap.size := by simp
        have HC4 := HC3.trans (((Below.refl _ w11).alloc (Nat.le_refl _) (.cells #[.int .i64 x, .int .i64 y] 24)).mono HC3.size)
        clear hb11 HC2 HC3
        go_wp2_with fail
        obtain ⟨w12, hW⟩ : ∃ W, w11.alloc (.cells #[.int .i64 x, .int .i64 y] 24) = W := ⟨_, rfl⟩
        rw [hW] at Y12 Ylt HC4 ⊢
        clear hW
        refine (HF1.out _).mono ?_
        rintro e w13 ⟨rfl, hb13⟩
        have Y13 : Hid _ := (hb13.block w11.heap.size Ylt).trans Y12.out
        have Ylt3 := Nat.lt_of_lt_of_le Ylt hb13.size
        have HC5 := HC4.trans (hb13.mono HC4.size)
        have HC6 := HC5.trans (((Below.refl _ w13).alloc (Nat.le_refl _) (.cells #[.int .i64 x, .int .i64 y] 24)).mono HC5.size)
        have hp := res_cells Y13.out
        have hp0 := hp.1
        have hp1 := hp.2
        have hq := res_cells ((Below.heap_alloc w13 (.cells #[.int .i64 x, .int .i64 y] 24) _ Ylt3).trans Y13.out)
        have hq0 := hq.1
        have hq1 := hq.2
        clear hp hq hb13 HC4 Y12 Ylt
        cases k with
        | false =>
          go_wp2_with fail
          go_ret
          exact ⟨rfl, HC6⟩
        | true =>
          have HT2 : Hid (idT x y = s2) := HTX.out rfl
          go_wp2_with fail
          refine (implIdPut_any x y _ (tab_kept ht HC6)).mono ?_
          rw [HT2.out]
          rintro e w15 ⟨rfl, hb15⟩
          go_wp2_with fail
          go_ret
          exact ⟨rfl, HC6.trans (hb15.mono HC6.size)⟩
      | false =>
        obtain ⟨rfl, rfl⟩ := less_none hl hl2
        refine (specIdLess_ints _ _ _ _ _).mono ?_
        rw [hl]
        rintro e w8 ⟨rfl, hb8⟩
        have q8 := q7.trans (hb8.mono q7.size)
        clear hb8 q7 X7 Xlt7 ka0 ka1 kc0 kc1 xx0 xx1
        have hk := HK.out _ q8
        have ka0 := hk.1
        have ka1 := hk.2.1
        have kc0 := hk.2.2.1
        have kc1 := hk.2.2.2.1
        clear hk
        go_wp2_with fail
        refine (implIdLess_ints _ _ _ _ _).mono ?_
        rw [hl]
        rintro e w9 ⟨rfl, hb9⟩
        have q9 := q8.trans (hb9.mono q8.size)
        clear hb9 q8 ka0 ka1 kc0 kc1
        have hk := HK.out _ q9
        have ka0 := hk.1
        have ka1 := hk.2.1
        have kc0 := hk.2.2.1
        have kc1 := hk.2.2.2.1
        clear hk
        have HC := HB2.trans (q9.mono HB2.size)
        clear HK hl hl2 HG HB2 q9
        go_wp2_with fail
        refine (drawText_any _ zs1 _ (bytes_kept hI1 HC)).mono ?_
        rintro e w10 ⟨s2, rfl, hs2, hb10⟩
        have HC2 := HC.trans (hb10.mono HC.size)
        obtain ⟨htx, hsz2⟩ := text_of hs2
        have hbt2 := bothF s2 hsz2
        obtain ⟨⟨⟨x, y⟩, k⟩, hF⟩ : ∃ F, idGetF s2 = F := ⟨_, rfl⟩
        rw [hF] at htx hbt2
        have HF1 : Hid (∀ w, Calls Tryd.prog 11 #[.string s2] w fun e w' => e = .returned (.tuple #[.agg #[.int .i64 x, .int .i64 y], .bool k]) ∧ Below w.heap.size w w') := hbt2.1
        have HF2 : Hid (∀ w, Calls Tryd.prog 6 #[.string s2] w fun e w' => e = .returned (.tuple #[.agg #[.int .i64 x, .int .i64 y], .bool k]) ∧ Below w.heap.size w w') := hbt2.2
        have HTX : Hid (k = true → idT x y = s2) := htx
        clear hbt2 hF hs2 hsz2 hb10 HC htx
        go_wp2_with fail
        refine (HF2.out _).mono ?_
        rintro e w11 ⟨rfl, hb11⟩
        have HC3 := HC2.trans (hb11.mono HC2.size)
        have Y12 : Hid ((w11.alloc (.cells #[.int .i64 x, .int .i64 y] 24)).heap[w11.heap.size]? = some (.cells #[.int .i64 x, .int .i64 y] 24 (0, 0))) := heap_alloc_new _ _
        have Ylt : w11.heap.size < (w11.alloc (.cells #[.int .i64 x, .int .i64 y] 24)).heap.size := by simp
        have HC4 := HC3.trans (((Below.refl _ w11).alloc (Nat.le_refl _) (.cells #[.int .i64 x, .int .i64 y] 24)).mono HC3.size)
        clear hb11 HC2 HC3
        go_wp2_with fail
        obtain ⟨w12, hW⟩ : ∃ W, w11.alloc (.cells #[.int .i64 x, .int .i64 y] 24) = W := ⟨_, rfl⟩
        rw [hW] at Y12 Ylt HC4 ⊢
        clear hW
        refine (HF1.out _).mono ?_
        rintro e w13 ⟨rfl, hb13⟩
        have Y13 : Hid _ := (hb13.block w11.heap.size Ylt).trans Y12.out
        have Ylt3 := Nat.lt_of_lt_of_le Ylt hb13.size
        have HC5 := HC4.trans (hb13.mono HC4.size)
        have HC6 := HC5.trans (((Below.refl _ w13).alloc (Nat.le_refl _) (.cells #[.int .i64 x, .int .i64 y] 24)).mono HC5.size)
        have hp := res_cells Y13.out
        have hp0 := hp.1
        have hp1 := hp.2
        have hq := res_cells ((Below.heap_alloc w13 (.cells #[.int .i64 x, .int .i64 y] 24) _ Ylt3).trans Y13.out)
        have hq0 := hq.1
        have hq1 := hq.2
        clear hp hq hb13 HC4 Y12 Ylt
        cases k with
        | false =>
          go_wp2_with fail
          go_ret
          exact ⟨rfl, HC6⟩
        | true =>
          have HT2 : Hid (idT x y = s2) := HTX.out rfl
          go_wp2_with fail
          refine (implIdPut_any x y _ (tab_kept ht HC6)).mono ?_
          rw [HT2.out]
          rintro e w15 ⟨rfl, hb15⟩
          go_wp2_with fail
          go_ret
          exact ⟨rfl, HC6.trans (hb15.mono HC6.size)⟩
  | false =>
    rw [hok] at hbt
    have HG : Hid (∀ w, Calls Tryd.prog 6 #[.string s] w fun e w' => e = .returned (.tuple #[.agg #[.int .i64 0, .int .i64 0], .bool false]) ∧ Below w.heap.size w w') := hbt.2
    have hem : s.toList.isEmpty = true := by
      have h4 : s.size = 0 := hemp.2 hok
      rw [Lib.toList_data, List.isEmpty_iff]
      exact List.length_eq_zero_iff.1 (by simpa using h4)
    clear hbt hemp hback
    refine (HG.out _).mono ?_
    rintro e w4 ⟨rfl, hb4⟩
    have q4 := q3.trans (hb4.mono q3.size)
    clear ka0 ka1 kc0 kc1 hb4 q3
    have X5 : Hid ((w4.alloc (.cells #[.int .i64 0, .int .i64 0] 24)).heap[w4.heap.size]? = some (.cells #[.int .i64 0, .int .i64 0] 24 (0, 0))) := heap_alloc_new _ _
    have Xlt : w4.heap.size < (w4.alloc (.cells #[.int .i64 0, .int .i64 0] 24)).heap.size := by simp
    have q5 := q4.trans (((Below.refl _ w4).alloc (Nat.le_refl _) (.cells #[.int .i64 0, .int .i64 0] 24)).mono q4.size)
    obtain ⟨X, hX⟩ : ∃ X, X = w4.heap.size := ⟨_, rfl⟩
    have hk := HK.out _ q5
    have ka0 := hk.1
    have ka1 := hk.2.1
    have kc0 := hk.2.2.1
    have kc1 := hk.2.2.2.1
    clear hk
    go_wp2_with fail
    obtain ⟨w5, hW⟩ : ∃ W, w4.alloc (.cells #[.int .i64 0, .int .i64 0] 24) = W := ⟨_, rfl⟩
    rw [hW] at X5 Xlt q5 ⊢
    rw [← hX] at X5 Xlt ⊢
    clear hW hX q4 ka0 ka1 kc0 kc1
    refine (implIdLess_ints a b c d _).mono ?_
    rintro e w6 ⟨rfl, hb6⟩
    have q6 := q5.trans (hb6.mono q5.size)
    have X6 : Hid _ := (hb6.block X Xlt).trans X5.out
    have Xlt6 := Nat.lt_of_lt_of_le Xlt hb6.size
    clear hb6 q5 X5 Xlt
    have hk := HK.out _ q6
    have ka0 := hk.1
    have ka1 := hk.2.1
    have kc0 := hk.2.2.1
    have kc1 := hk.2.2.2.1
    clear hk
    go_wp2_with fail
    refine (specIdPut_any a b _).mono ?_
    rw [HS.out]
    rintro e w7 ⟨rfl, hb7⟩
    have q7 := q6.trans (hb7.mono q6.size)
    have X7 : Hid _ := (hb7.block X Xlt6).trans X6.out
    have Xlt7 := Nat.lt_of_lt_of_le Xlt6 hb7.size
    clear hb7 q6 X6 Xlt6 ka0 ka1 kc0 kc1
    have hk := HK.out _ q7
    have ka0 := hk.1
    have ka1 := hk.2.1
    have kc0 := hk.2.2.1
    have kc1 := hk.2.2.2.1
    clear hk
    have hx7 := res_cells X7.out
    have xx0 := hx7.1
    have xx1 := hx7.2
    clear hx7
    go_wp2_with fail
    cases hl : idLessB (a, b) (c, d) with
    | true =>
      have hl2 := less_asym hl
      refine (specIdLess_ints a b c d _).mono ?_
      rw [hl]
      rintro e w8 ⟨rfl, hb8⟩
      have q8 := q7.trans (hb8.mono q7.size)
      clear hb8 q7 X7 Xlt7 ka0 ka1 kc0 kc1 xx0 xx1
      have hk := HK.out _ q8
      have ka0 := hk.1
      have ka1 := hk.2.1
      have kc0 := hk.2.2.1
      have kc1 := hk.2.2.2.1
      clear hk
      go_wp2_with fail
      refine (implIdLess_ints c d a b _).mono ?_
      rw [hl2]
      rintro e w9 ⟨rfl, hb9⟩
      have q9 := q8.trans (hb9.mono q8.size)
      clear hb9 q8 ka0 ka1 kc0 kc1
      have HC := HB2.trans (q9.mono HB2.size)
      clear HK hl hl2 HG HB2 q9
      go_wp2_with fail
      refine (drawText_any _ zs1 _ (bytes_kept hI1 HC)).mono ?_
      rintro e w10 ⟨s2, rfl, hs2, hb10⟩
      have HC2 := HC.trans (hb10.mono HC.size)
      obtain ⟨htx, hsz2⟩ := text_of hs2
      have hbt2 := bothF s2 hsz2
      obtain ⟨⟨⟨x, y⟩, k⟩, hF⟩ : ∃ F, idGetF s2 = F := ⟨_, rfl⟩
      rw [hF] at htx hbt2
      have HF1 : Hid (∀ w, Calls Tryd.prog 11 #[.string s2] w fun e w' => e = .returned (.tuple #[.agg #[.int .i64 x, .int .i64 y], .bool k]) ∧ Below w.heap.size w w') := hbt2.1
      have HF2 : Hid (∀ w, Calls Tryd.prog 6 #[.string s2] w fun e w' => e = .returned (.tuple #[.agg #[.int .i64 x, .int .i64 y], .bool k]) ∧ Below w.heap.size w w') := hbt2.2
      have HTX : Hid (k = true → idT x y = s2) := htx
      clear hbt2 hF hs2 hsz2 hb10 HC htx
      go_wp2_with fail
      refine (HF2.out _).mono ?_
      rintro e w11 ⟨rfl, hb11⟩
      have HC3 := HC2.trans (hb11.mono HC2.size)
      have Y12 : Hid ((w11.alloc (.cells #[.int .i64 x, .int .i64 y] 24)).heap[w11.heap.size]? = some (.cells #[.int .i64 x, .int .i64 y] 24 (0, 0))) := heap_alloc_new _ _
      have Ylt : w11.heap.size < (w11.alloc (.cells #[.int .i64 x, .int .i64 y] 24)).heap.size := by simp
      have HC4 := HC3.trans (((Below.refl _ w11).alloc (Nat.le_refl _) (.cells #[.int .i64 x, .int .i64 y] 24)).mono HC3.size)
      clear hb11 HC2 HC3
      go_wp2_with fail
      obtain ⟨w12, hW⟩ : ∃ W, w11.alloc (.cells #[.int .i64 x, .int .i64 y] 24) = W := ⟨_, rfl⟩
      rw [hW] at Y12 Ylt HC4 ⊢
      clear hW
      refine (HF1.out _).mono ?_
      rintro e w13 ⟨rfl, hb13⟩
      have Y13 : Hid _ := (hb13.block w11.heap.size Ylt).trans Y12.out
      have Ylt3 := Nat.lt_of_lt_of_le Ylt hb13.size
      have HC5 := HC4.trans (hb13.mono HC4.size)
      have HC6 := HC5.trans (((Below.refl _ w13).alloc (Nat.le_refl _) (.cells #[.int .i64 x, .int .i64 y] 24)).mono HC5.size)
      have hp := res_cells Y13.out
      have hp0 := hp.1
      have hp1 := hp.2
      have hq := res_cells ((Below.heap_alloc w13 (.cells #[.int .i64 x, .int .i64 y] 24) _ Ylt3).trans Y13.out)
      have hq0 := hq.1
      have hq1 := hq.2
      clear hp hq hb13 HC4 Y12 Ylt
      cases k with
      | false =>
        go_wp2_with fail
        go_ret
        exact ⟨rfl, HC6⟩
      | true =>
        have HT2 : Hid (idT x y = s2) := HTX.out rfl
        go_wp2_with fail
        refine (implIdPut_any x y _ (tab_kept ht HC6)).mono ?_
        rw [HT2.out]
        rintro e w15 ⟨rfl, hb15⟩
        go_wp2_with fail
        go_ret
        exact ⟨rfl, HC6.trans (hb15.mono HC6.size)⟩
    | false =>
      cases hl2 : idLessB (c, d) (a, b) with
      | true =>
        refine (specIdLess_ints a b c d _).mono ?_
        rw [hl]
        rintro e w8 ⟨rfl, hb8⟩
        have q8 := q7.trans (hb8.mono q7.size)
        clear hb8 q7 X7 Xlt7 ka0 ka1 kc0 kc1 xx0 xx1
        have hk := HK.out _ q8
        have ka0 := hk.1
        have ka1 := hk.2.1
        have kc0 := hk.2.2.1
        have kc1 := hk.2.2.2.1
        clear hk
        go_wp2_with fail
        refine (implIdLess_ints c d a b _).mono ?_
        rw [hl2]
        rintro e w9 ⟨rfl, hb9⟩
        have q9 := q8.trans (hb9.mono q8.size)
        clear hb9 q8 ka0 ka1 kc0 kc1
        have HC := HB2.trans (q9.mono HB2.size)
        clear HK hl hl2 HG HB2 q9
        go_wp2_with fail
        refine (drawText_any _ zs1 _ (bytes_kept hI1 HC)).mono ?_
        rintro e w10 ⟨s2, rfl, hs2, hb10⟩
        have HC2 := HC.trans (hb10.mono HC.size)
        obtain ⟨htx, hsz2⟩ := text_of hs2
        have hbt2 := bothF s2 hsz2
        obtain ⟨⟨⟨x, y⟩, k⟩, hF⟩ : ∃ F, idGetF s2 = F := ⟨_, rfl⟩
        rw [hF] at htx hbt2
        have HF1 : Hid (∀ w, Calls Tryd.prog 11 #[.string s2] w fun e w' => e = .returned (.tuple #[.agg #[.int .i64 x, .int .i64 y], .bool k]) ∧ Below w.heap.size w w') := hbt2.1
        have HF2 : Hid (∀ w, Calls Tryd.prog 6 #[.string s2] w fun e w' => e = .returned (.tuple #[.agg #[.int .i64 x, .int .i64 y], .bool k]) ∧ Below w.heap.size w w') := hbt2.2
        have HTX : Hid (k = true → idT x y = s2) := htx
        clear hbt2 hF hs2 hsz2 hb10 HC htx
        go_wp2_with fail
        refine (HF2.out _).mono ?_
        rintro e w11 ⟨rfl, hb11⟩
        have HC3 := HC2.trans (hb11.mono HC2.size)
        have Y12 : Hid ((w11.alloc (.cells #[.int .i64 x, .int .i64 y] 24)).heap[w11.heap.size]? = some (.cells #[.int .i64 x, .int .i64 y] 24 (0, 0))) := heap_alloc_new _ _
        have Ylt : w11.heap.size < (w11.alloc (.cells #[.int .i64 x, .int .i64 y] 24)).heap.size := by simp
        have HC4 := HC3.trans (((Below.refl _ w11).alloc (Nat.le_refl _) (.cells #[.int .i64 x, .int .i64 y] 24)).mono HC3.size)
        clear hb11 HC2 HC3
        go_wp2_with fail
        obtain ⟨w12, hW⟩ : ∃ W, w11.alloc (.cells #[.int .i64 x, .int .i64 y] 24) = W := ⟨_, rfl⟩
        rw [hW] at Y12 Ylt HC4 ⊢
        clear hW
        refine (HF1.out _).mono ?_
        rintro e w13 ⟨rfl, hb13⟩
        have Y13 : Hid _ := (hb13.block w11.heap.size Ylt).trans Y12.out
        have Ylt3 := Nat.lt_of_lt_of_le Ylt hb13.size
        have HC5 := HC4.trans (hb13.mono HC4.size)
        have HC6 := HC5.trans (((Below.refl _ w13).alloc (Nat.le_refl _) (.cells #[.int .i64 x, .int .i64 y] 24)).mono HC5.size)
        have hp := res_cells Y13.out
        have hp0 := hp.1
        have hp1 := hp.2
        have hq := res_cells ((Below.heap_alloc w13 (.cells #[.int .i64 x, .int .i64 y] 24) _ Ylt3).trans Y13.out)
        have hq0 := hq.1
        have hq1 := hq.2
        clear hp hq hb13 HC4 Y12 Ylt
        cases k with
        | false =>
          go_wp2_with fail
          go_ret
          exact ⟨rfl, HC6⟩
        | true =>
          have HT2 : Hid (idT x y = s2) := HTX.out rfl
          go_wp2_with fail
          refine (implIdPut_any x y _ (tab_kept ht HC6)).mono ?_
          rw [HT2.out]
          rintro e w15 ⟨rfl, hb15⟩
          go_wp2_with fail
          go_ret
          exact ⟨rfl, HC6.trans (hb15.mono HC6.size)⟩
      | false =>
        obtain ⟨rfl, rfl⟩ := less_none hl hl2
        refine (specIdLess_ints _ _ _ _ _).mono ?_
        rw [hl]
        rintro e w8 ⟨rfl, hb8⟩
        have q8 := q7.trans (hb8.mono q7.size)
        clear hb8 q7 X7 Xlt7 ka0 ka1 kc0 kc1 xx0 xx1
        have hk := HK.out _ q8
        have ka0 := hk.1
        have ka1 := hk.2.1
        have kc0 := hk.2.2.1
        have kc1 := hk.2.2.2.1
        clear hk
        go_wp2_with fail
        refine (implIdLess_ints _ _ _ _ _).mono ?_
        rw [hl]
        rintro e w9 ⟨rfl, hb9⟩
        have q9 := q8.trans (hb9.mono q8.size)
        clear hb9 q8 ka0 ka1 kc0 kc1
        have hk := HK.out _ q9
        have ka0 := hk.1
        have ka1 := hk.2.1
        have kc0 := hk.2.2.1
        have kc1 := hk.2.2.2.1
        clear hk
        have HC := HB2.trans (q9.mono HB2.size)
        clear HK hl hl2 HG HB2 q9
        go_wp2_with fail
        refine (drawText_any _ zs1 _ (bytes_kept hI1 HC)).mono ?_
        rintro e w10 ⟨s2, rfl, hs2, hb10⟩
        have HC2 := HC.trans (hb10.mono HC.size)
        obtain ⟨htx, hsz2⟩ := text_of hs2
        have hbt2 := bothF s2 hsz2
        obtain ⟨⟨⟨x, y⟩, k⟩, hF⟩ : ∃ F, idGetF s2 = F := ⟨_, rfl⟩
        rw [hF] at htx hbt2
        have HF1 : Hid (∀ w, Calls Tryd.prog 11 #[.string s2] w fun e w' => e = .returned (.tuple #[.agg #[.int .i64 x, .int .i64 y], .bool k]) ∧ Below w.heap.size w w') := hbt2.1
        have HF2 : Hid (∀ w, Calls Tryd.prog 6 #[.string s2] w fun e w' => e = .returned (.tuple #[.agg #[.int .i64 x, .int .i64 y], .bool k]) ∧ Below w.heap.size w w') := hbt2.2
        have HTX : Hid (k = true → idT x y = s2) := htx
        clear hbt2 hF hs2 hsz2 hb10 HC htx
        go_wp2_with fail
        refine (HF2.out _).mono ?_
        rintro e w11 ⟨rfl, hb11⟩
        have HC3 := HC2.trans (hb11.mono HC2.size)
        have Y12 : Hid ((w11.alloc (.cells #[.int .i64 x, .int .i64 y] 24)).heap[w11.heap.size]? = some (.cells #[.int .i64 x, .int .i64 y] 24 (0, 0))) := heap_alloc_new _ _
        have Ylt : w11.heap.size < (w11.alloc (.cells #[.int .i64 x, .int .i64 y] 24)).heap.size := by simp
        have HC4 := HC3.trans (((Below.refl _ w11).alloc (Nat.le_refl _) (.cells #[.int .i64 x, .int .i64 y] 24)).mono HC3.size)
        clear hb11 HC2 HC3
        go_wp2_with fail
        obtain ⟨w12, hW⟩ : ∃ W, w11.alloc (.cells #[.int .i64 x, .int .i64 y] 24) = W := ⟨_, rfl⟩
        rw [hW] at Y12 Ylt HC4 ⊢
        clear hW
        refine (HF1.out _).mono ?_
        rintro e w13 ⟨rfl, hb13⟩
        have Y13 : Hid _ := (hb13.block w11.heap.size Ylt).trans Y12.out
        have Ylt3 := Nat.lt_of_lt_of_le Ylt hb13.size
        have HC5 := HC4.trans (hb13.mono HC4.size)
        have HC6 := HC5.trans (((Below.refl _ w13).alloc (Nat.le_refl _) (.cells #[.int .i64 x, .int .i64 y] 24)).mono HC5.size)
        have hp := res_cells Y13.out
        have hp0 := hp.1
        have hp1 := hp.2
        have hq := res_cells ((Below.heap_alloc w13 (.cells #[.int .i64 x, .int .i64 y] 24) _ Ylt3).trans Y13.out)
        have hq0 := hq.1
        have hq1 := hq.2
        clear hp hq hb13 HC4 Y12 Ylt
        cases k with
        | false =>
          go_wp2_with fail
          go_ret
          exact ⟨rfl, HC6⟩
        | true =>
          have HT2 : Hid (idT x y = s2) := HTX.out rfl
          go_wp2_with fail
          refine (implIdPut_any x y _ (tab_kept ht HC6)).mono ?_
          rw [HT2.out]
          rintro e w15 ⟨rfl, hb15⟩
          go_wp2_with fail
          go_ret
          exact ⟨rfl, HC6.trans (hb15.mono HC6.size)⟩

set_option maxRecDepth 100000 in
theorem lifted (os : Os) (started : os.Started) (H : Type) (enc : TypeId × Value → H) :
    ReturnsInHanded {} Tryd.checked os 3 .any (fun w args => (Rows.fnIdTextSpec.pre enc Tryd.prog Tryd.f3 Rows.fnIdTextRow.domain false w args ∧ laidMetH Tryd.prog Rows.fnIdTextRow.laid w) ∧ sizedMet enc Tryd.prog Tryd.f3 (OpenSpec.ofChange Rows.fnIdTextSpec) false w args)
      (Rows.fnIdTextSpec.post enc Tryd.prog Tryd.f3 false true false false) := by
  refine returnsInHanded_of_change_and (C := Tryd.checked) (X := fun w _ => laidMetH Tryd.prog Rows.fnIdTextRow.laid w) (fun _ _ _ hh h => h.of_heap hh) own started (by kernel_rfl) Tryd.func3
    (ChangeSpec.witness_shaped (enc := enc) (C := Tryd.checked) (os := os) (X := fun w _ => laidMetH Tryd.prog Rows.fnIdTextRow.laid w) false (World.laidAll Tryd.prog os Rows.fnIdTextRow.laid) #[.slice none 0 0, .slice none 0 0] 8 (World.laidAll_os _ _ _)
      (World.shaped_of_ZipB (by kernel_rfl) (by kernel_rfl)) (by kernel_rfl) (by kernel_rfl) (by kernel_rfl)
      (by rw [MakeChecks.laidMetH_plain _ _ _ (by kernel_rfl)]; exact laidMet_laidAll _ (by kernel_rfl) (by kernel_rfl))) ?_
  intro W base args ds gs before hval0 hW hcnd _ hL _
  have hval : ∀ (j : Nat) t v, Tryd.f3.params[j]? = some t → args[j]? = some v → Value.okWide Tryd.prog W .any base t v := hval0
  have hW' := hW
  obtain ⟨p, q, hA0, hV, rfl, hfz, hnd⟩ := hW
  have hA : DataW.TrodAll enc Tryd.prog W 0 (fun _ => true) true Tryd.f3.params.toList args.toList ds p := hA0
  rw [Tryd.params3] at hA hval
  obtain ⟨v0, vs0, d0, ds0, p0, q0, hargs, rfl, rfl, h0, r0⟩ := trodAll_cons hA
  obtain ⟨v1, vs1, d1, ds1, p1, q1, rfl, rfl, rfl, h1, r1⟩ := trodAll_cons r0
  obtain ⟨rfl, rfl, rfl⟩ := trodAll_nil r1
  obtain rfl : args = #[v0, v1] := by cases args; simp_all
  obtain ⟨rfl, rfl⟩ := trodVars_none hV
  obtain ⟨a0, len0, cap0, rfl⟩ := okWide_slice Tryd.underlying22 (hval 0 22 v0 rfl rfl)
  have k0 := h0
  have lt0 : ∀ x ∈ p0, x.block < W.heap.size := by obtain ⟨m, hm⟩ := k0; exact DataW.trod_lt m _ _ _ hm
  obtain ⟨z0, w0⟩ : ∃ zs, IsBytes W (.slice a0 len0 cap0) zs := by
    obtain ⟨fuel, hf⟩ := h0
    rcases open_ints Tryd.underlying22 Tryd.underlying5 (by kernel_rfl) hf with ⟨hcs, _⟩ | ⟨x, ln, cp, zs, hcs, _, hl, hm, hz, _, hcell, hwz⟩
    · exact bytes_of_none (by simpa [Value.cells] using hcs)
    · exact bytes_of_some (by simpa [Value.cells] using hcs) hl hm (by simpa using hz) hcell hwz
  obtain ⟨a1, len1, cap1, rfl⟩ := okWide_slice Tryd.underlying22 (hval 1 22 v1 rfl rfl)
  have k1 := h1
  have lt1 : ∀ x ∈ p1, x.block < W.heap.size := by obtain ⟨m, hm⟩ := k1; exact DataW.trod_lt m _ _ _ hm
  obtain ⟨z1, w1⟩ : ∃ zs, IsBytes W (.slice a1 len1 cap1) zs := by
    obtain ⟨fuel, hf⟩ := h1
    rcases open_ints Tryd.underlying22 Tryd.underlying5 (by kernel_rfl) hf with ⟨hcs, _⟩ | ⟨x, ln, cp, zs, hcs, _, hl, hm, hz, _, hcell, hwz⟩
    · exact bytes_of_none (by simpa [Value.cells] using hcs)
    · exact bytes_of_some (by simpa [Value.cells] using hcs) hl hm (by simpa using hz) hcell hwz
  clear hA0 hval0
  refine (walk (.slice a0 len0 cap0) z0 (.slice a1 len1 cap1) z1 W w0 w1 (tabOf hL)).mono fun e W' ⟨he, bel⟩ => ?_
  subst he
  exact ⟨_, rfl, _, _, _, [], _, [], hW', trodAll_mk1 (shut_bool Tryd.underlying4 _), (trodAll_cons_mk (Below.trod laidOut (by kernel_rfl) (of_decide_eq_true (by kernel_rfl)) k0 bel lt0) (trodAll_cons_mk (Below.trod laidOut (by kernel_rfl) (of_decide_eq_true (by kernel_rfl)) k1 bel lt1) trodAll_mk0)), rfl, bel.frame _, fun h => by cases h⟩

theorem over : Rows.fnIdTextRow.holds Tryd.pinned (OpenSpec.ofChange Rows.fnIdTextSpec) :=
  OpenClaim.holds_of_wide 3 Tryd.f3 rfl rfl rfl rfl rfl rfl rfl ⟨rfl, rfl, rfl, rfl, rfl⟩ rfl rfl rfl rfl rfl (by kernel_rfl) Tryd.func3 (by kernel_rfl)
    (of_decide_eq_true (by kernel_rfl)) (by unfold Func.isWrapper; first | (rw [if_pos (by decide +kernel)]; kernel_rfl) | (rw [if_neg (by decide +kernel)]; exact ⟨rfl, rfl⟩))
    (fun os started H enc _ => lifted os started H enc)

theorem proved : Rows.FnIdTextCardSaid :=
  Claim7.holds_tied_plain_at .later [] _ _ _ _ over (fun _ h => by cases h) (by kernel_rfl) (fun _ h => by cases h) fnIdText_row_tie rfl ⟨rfl, rfl⟩ (by kernel_rfl) rfl
    (fun f fn hf hfn => by
      obtain rfl : f = 3 := Option.some.inj ((show Tryd.prog.funcNamed "loop.example/quincunx/laws.FnIdText" = some 3 by kernel_rfl).symm.trans hf) |>.symm
      obtain rfl : fn = Tryd.f3 := (Option.some.inj (Tryd.func3.symm.trans hfn)).symm
      exact ⟨by kernel_rfl, fun j t ht => by
        rw [Tryd.params3] at ht
        have hm : t ∈ [22] := by simpa using Array.mem_of_getElem? ht
        have hall : ([22].all fun u => !Tryd.prog.wantsStandIn u) = true := by kernel_rfl
        exact (show Tryd.prog.wantsStandIn t = false by simpa using List.all_eq_true.1 hall t hm)⟩)
    (by kernel_rfl)
end Go.Proofs.YtkpfoocfjhilmaaDoor.fnIdText
