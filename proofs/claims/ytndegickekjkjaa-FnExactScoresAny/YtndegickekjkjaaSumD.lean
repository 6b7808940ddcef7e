/- The program's scoresTogether, ScoresAny and ScoresBoth. -/
import Derived.Test.YtndegickekjkjaaSumB
import Derived.Test.YtndegickekjkjaaSetY
import Derived.Test.YtndegickekjkjaaScWj
import Derived.Test.YtndegickekjkjaaScE
namespace Go.Proofs.Ytndegickekjkjaa
open Go.RowKit
set_option linter.unusedVariables false

def sumR (m : Int) (a b : List (ByteArray × Int)) : List (ByteArray × Int) := if m = 7 then sumAnyR a b else sumBothR a b
theorem sumR_no {m : Int} {a b : List (ByteArray × Int)} (h : (scOkB a && scOkB b) = false) : sumR m a b = [] := by
  unfold sumR sumAnyR sumBothR; rw [h]; simp
theorem has_mem {a : List (ByteArray × Int)} {s : ByteArray} : s ∈ a.map (·.1) ↔ scHas a s = true := by
  rw [scHas_iff, List.mem_map]
theorem asc_ne {T : List ByteArray} (h : Asc T) : T.Pairwise (fun x y => x ≠ y) := h.imp (fun hxy => ltT_ne hxy)
/-- what the program puts in order is what the model puts -/
theorem sumR_of {m : Int} (hm : m = 4 ∨ m = 7) {a b : List (ByteArray × Int)} (ha : scOkB a = true) (hb : scOkB b = true) {c d : List ByteArray} (hc : Asc c) (hd : Asc d) (hcm : ∀ s, s ∈ c ↔ s ∈ a.map (·.1)) (hdm : ∀ s, s ∈ d ↔ s ∈ b.map (·.1)) :
    sumR m a b = scFoldF [] ((pickL m (mrg c d)).map (sumOf a b)) := by
  have hA := scOk_all ha
  have hB := scOk_all hb
  rcases hm with rfl | rfl
  · unfold sumR sumBothR
    rw [if_neg (by decide), ha, hb, if_pos (show (true && true) = true from rfl)]
    have e : pickL (4 : Int) (mrg c d) = pickM c d 4 := pickL_M hc hd (.inr (.inl rfl))
    rw [e]
    refine (sums_both hA hB (asc_ne (pickM_asc hc hd 4)) (fun s => ?_)).symm
    rw [pickM_mem hc hd, hcm, hdm, has_mem, has_mem]
    simp
  · unfold sumR sumAnyR
    rw [if_pos rfl, ha, hb, if_pos (show (true && true) = true from rfl)]
    have e : pickL (7 : Int) (mrg c d) = pickM c d 7 := pickL_M hc hd (.inr (.inr rfl))
    rw [e]
    refine (sums_any hA hB (asc_ne (pickM_asc hc hd 7)) (fun s => ?_)).symm
    rw [pickM_mem hc hd, hcm, hdm, has_mem, has_mem]
    cases scHas a s <;> cases scHas b s <;> simp
theorem pickL_nodup (m : Int) {c d : List ByteArray} (hc : Asc c) (hd : Asc d) (hm : m = 4 ∨ m = 7) : (pickL m (mrg c d)).Pairwise (fun x y => x ≠ y) := by
  rcases hm with rfl | rfl
  · rw [show pickL (4 : Int) (mrg c d) = pickM c d 4 from pickL_M hc hd (.inr (.inl rfl))]; exact asc_ne (pickM_asc hc hd 4)
  · rw [show pickL (7 : Int) (mrg c d) = pickM c d 7 from pickL_M hc hd (.inr (.inr rfl))]; exact asc_ne (pickM_asc hc hd 7)
theorem sums_step {a b : List (ByteArray × Int)} {T : List ByteArray} {k : Nat} (h : k < T.length) : scFoldF [] ((T.take (k + 1)).map (sumOf a b)) = scIns (scFoldF [] ((T.take k).map (sumOf a b))) (sumOf a b (at_ T k)) := by
  rw [List.take_succ_eq_append_getElem h, List.map_append, at_lt h]; exact scFoldF_snoc _ _ _
/-- a text that comes behind is none of those that were put -/
theorem wo_new {a b : List (ByteArray × Int)} {T : List ByteArray} (hT : T.Pairwise (fun x y => x ≠ y)) {k : Nat} (h : k < T.length) :
    scWo (scFoldF [] ((T.take k).map (sumOf a b))) (at_ T k) = scFoldF [] ((T.take k).map (sumOf a b)) := by
  refine scWo_miss ?_
  have hn : scHas (scFoldF [] ((T.take k).map (sumOf a b))) (at_ T k) = false := by
    rw [Bool.eq_false_iff]
    intro hh
    obtain ⟨x, hx, e⟩ := scHas_iff.1 hh
    rw [scFoldF_mem, List.mem_map] at hx
    rcases hx with ⟨s, hs, rfl⟩ | hx
    · obtain ⟨j, hj, rfl⟩ := List.getElem_of_mem hs
      rw [List.length_take] at hj
      rw [List.getElem_take, at_lt h] at e
      exact List.pairwise_iff_getElem.1 hT j k (by omega) h (by omega) e
    · simp at hx
  unfold scHas at hn; simpa using hn

theorem clamp_mm (n : Int) : min (max n (-1000000000)) 1000000000 = clampS n := by unfold clampS; split <;> (try split) <;> omega
theorem row_set {w : World} {base : Nat} {e : TypeId} {sz n : Nat} {v : Value} {xs : List Value} (h : w.ownsRow base e sz v n xs) (a : Addr) (u : Value) (ha : a.block < base) : (w.setCell a u).ownsRow base e sz v n xs := by
  refine World.ownsRow.kept h (grown_setCell w a u) ?_
  cases hv : v.ownBlock with
  | none => exact .inl rfl
  | some k =>
    right
    intro e
    have := (World.ownsRow.lt h k hv).1
    have : k = a.block := by simpa using e
    omega
theorem row_set5 {w : World} {base B : Nat} {e : TypeId} {sz n : Nat} {v : Value} {xs : List Value} (h : w.ownsRow base e sz v n xs) (hB : B < base) (u0 u1 u2 u3 u4 : Value) : (((((w.setCell ⟨B, 0, none⟩ u0).setCell ⟨B, 1, none⟩ u1).setCell ⟨B, 2, none⟩ u2).setCell ⟨B, 3, none⟩ u3).setCell ⟨B, 4, none⟩ u4).ownsRow base e sz v n xs :=
  row_set (row_set (row_set (row_set (row_set h _ _ hB) _ _ hB) _ _ hB) _ _ hB) _ _ hB

set_option maxHeartbeats 8000000 in
set_option maxRecDepth 100000 in
theorem scoresTogether_any (v u : Value) (a b : List (ByteArray × Int)) (m : Int) (hm : m = 4 ∨ m = 7) (w : World) (hr : ScReads w v a) (hq : ScReads w u b) (ha : a.length ≤ 1048576) (hb : b.length ≤ 1048576) :
    Calls Try.prog 20 #[v, u, .int .i64 m] w fun e w' => ∃ x, e = .returned x ∧ ScOwns w' w.heap.size x (sumR m a b) ∧ Below w.heap.size w w' := by
  have hrs := fun (k : Nat) (w : World) (a : Addr) => run_store Try.prog w a (.func (.func k) #[] #[]) .plain rfl
  obtain ⟨aa, ca, rfl⟩ := readsR_shape hr
  obtain ⟨ab, cb, rfl⟩ := readsR_shape hq
  go_enter Try.func20, Try.ntmps20
  go_wp2_with fail
  refine (implScoresOk_any _ a _ hr ha).mono ?_
  rintro e w1 ⟨rfl, hb1⟩
  cases hoka : scOkB a with
  | false =>
    have HR : Hid (sumR m a b = []) := sumR_no (by rw [hoka]; rfl)
    clear hoka
    go_wp2_with fail
    go_ret
    exact ⟨_, rfl, by rw [HR.out]; exact World.ownsRow_nil _ _ _ _, hb1⟩
  | true =>
    have HOKA : Hid (scOkB a = true) := hoka
    clear hoka
    go_wp2_with fail
    refine (implScoresOk_any _ b _ (readsR_kept hq hb1) hb).mono ?_
    rintro e w2 ⟨rfl, hb2⟩
    have hB2 := hb1.trans (hb2.mono hb1.size)
    clear hb1 hb2
    cases hokb : scOkB b with
    | false =>
      have HR : Hid (sumR m a b = []) := sumR_no (by rw [hokb]; exact Bool.and_false _)
      clear hokb
      go_wp2_with fail
      go_ret
      exact ⟨_, rfl, by rw [HR.out]; exact World.ownsRow_nil _ _ _ _, hB2⟩
    | true =>
      have HOKB : Hid (scOkB b = true) := hokb
      clear hokb
      go_wp2_with fail
      refine (scTable_any _ _ _ _).mono ?_
      rintro e w3 ⟨rfl, hb3⟩
      have hB3 := hB2.trans (hb3.mono hB2.size)
      clear hb3 hB2
      have hz3 := hB3.size
      obtain ⟨w4, hw4⟩ : ∃ W, w3.alloc (.cells #[.slice none 0 0, .int .i64 16, .func (.func 32) #[] #[], .func (.func 33) #[] #[], .func (.func 34) #[] #[]] 47) = W := ⟨_, rfl⟩
      have hbx : Box5 w4 w3.heap.size (.slice none 0 0) (.int .i64 16) (.func (.func 32) #[] #[]) (.func (.func 33) #[] #[]) (.func (.func 34) #[] #[]) := by
        rw [← hw4]; exact box5_row (heap_alloc_new w3 _)
      have hB4 : Below w.heap.size w w4 := by rw [← hw4]; exact hB3.alloc hz3 _
      have hz4 : w4.heap.size = w3.heap.size + 1 := by rw [← hw4]; simp
      go_wp2_with fail
      clear hw4 hB3
      refine (scoreTexts_any _ a _ (readsR_kept hr hB4) ha).mono ?_
      rintro e w5 ⟨x5, c, rfl, hr5, hasc, hcm, hcl, hb5⟩
      have hB5 := hB4.trans (hb5.mono hB4.size)
      have hbx5 := box5_below hbx hb5 (by omega)
      have hz5 := hb5.size
      clear hbx hb5 hB4
      obtain ⟨a5, c5, rfl⟩ := reads_shape hr5
      go_wp2_with fail
      refine (scoreTexts_any _ b _ (readsR_kept hq hB5) hb).mono ?_
      rintro e w6 ⟨x6, d, rfl, hr6, hasd, hdm, hdl, hb6⟩
      have hB6 := hB5.trans (hb6.mono hB5.size)
      have hbx6 := box5_below hbx5 hb6 (by omega)
      have hr56 := reads_kept hr5 hb6
      have hz6 := hb6.size
      clear hbx5 hb6 hB5 hr5
      obtain ⟨a6, c6, rfl⟩ := reads_shape hr6
      go_wp2_with fail
      refine (pickS_any _ _ c d m (.inr hm) _ hr56 hr6 (by omega) (by omega)).mono ?_
      rintro e w7 ⟨x7, rfl, ho7, hb7⟩
      have hB7 := hB6.trans (hb7.mono hB6.size)
      have hbx7 := box5_below hbx6 hb7 (by omega)
      have hz7 := hb7.size
      have hTl := pickL_len m (mrg c d)
      have hml := mrg_len c d
      have hT := pickL_nodup m hasc hasd hm
      have HR : Hid (sumR m a b = scFoldF [] ((pickL m (mrg c d)).map (sumOf a b))) := sumR_of hm HOKA.out HOKB.out hasc hasd hcm hdm
      clear hbx6 hb7 hB6 hr56 hr6 hcm hdm hasc hasd
      generalize pickL m (mrg c d) = T at ho7 hTl hT HR
      obtain ⟨at7, c7, rfl⟩ := reads_shape (owns_reads ho7)
      have ha16 := scOk_len HOKA.out
      have hb16 := scOk_len HOKB.out
      have hTl' : T.length ≤ 32 := by omega
      have ho7 : Owns w7 (w3.heap.size + 1) (.slice at7 T.length c7) T := owns_base ho7 (by omega)
      clear hml hTl hcl hdl
      go_wp2_with fail
      go_loopw [27] (fun i wr => ∃ k : Nat, k ≤ T.length ∧ i = .int .i64 (k : Int) ∧ Below w.heap.size w wr ∧ w3.heap.size + 1 ≤ wr.heap.size ∧ Owns wr (w3.heap.size + 1) (.slice at7 T.length c7) T ∧ ∃ x, Box5 wr w3.heap.size x (.int .i64 16) (.func (.func 32) #[] #[]) (.func (.func 33) #[] #[]) (.func (.func 34) #[] #[]) ∧ ScOwns wr (w3.heap.size + 1) x (scFoldF [] ((T.take k).map (sumOf a b)))) (fun i _ => T.length - (intOf i).toNat)
      case atStart => exact ⟨0, Nat.zero_le _, rfl, hB7, by omega, ho7, _, hbx7, World.ownsRow_nil _ _ _ _⟩
      case round =>
        obtain ⟨k, hk, rfl, hB, hzr, hoT, x, hbx, hox⟩ := hrel
        clear hB7 ho7 hbx7
        by_cases hlt : k < T.length
        · have hk1 : (k : Int) < (T.length : Int) := by omega
          have hstep := sums_step (a := a) (b := b) hlt
          have hwo := wo_new (a := a) (b := b) hT hlt
          have hFl : (scFoldF [] ((T.take k).map (sumOf a b))).length ≤ k := by rw [scFoldF_len, List.length_map, List.length_take]; simp; omega
          have HN : Hid (sumOf a b (at_ T k) = (at_ T k, clampS (scNum a (at_ T k) + scNum b (at_ T k)))) := rfl
          obtain ⟨n1a, n1b⟩ := scNum_bd (scOk_all HOKA.out) (at_ T k)
          obtain ⟨n2a, n2b⟩ := scNum_bd (scOk_all HOKB.out) (at_ T k)
          have HST : Hid _ := hstep
          have HWO : Hid _ := hwo
          clear hstep hwo
          obtain ⟨bT, oT, hTv, hbT, hcT⟩ : ∃ bT oT, at7 = some ⟨bT, oT, none⟩ ∧ bT < wr.heap.size ∧ wr.cell? ⟨bT, oT + k, none⟩ = some (.string (at_ T k)) := by
            rcases owns_reads hoT with ⟨h, _⟩ | ⟨h0, b, off, cap, hv, hb, hnc, hcm, hc⟩
            · rw [h] at hlt; simp at hlt
            · cases hv; exact ⟨_, _, rfl, hb, hc k hlt⟩
          subst hTv
          go_wp2_with fail
          refine (numberOfText_any _ a (at_ T k) _ (readsR_kept hr hB) ha HOKA.out).mono ?_
          rintro e w8 ⟨rfl, hb8⟩
          go_wp2_with fail
          refine (numberOfText_any _ b (at_ T k) _ (readsR_kept hq (hB.trans (hb8.mono hB.size))) hb HOKB.out).mono ?_
          rintro e w9 ⟨rfl, hb9⟩
          have hb89 := hb8.trans (hb9.mono hb8.size)
          have hB9 := hB.trans (hb89.mono hB.size)
          have hbx9 := box5_below hbx hb89 (by omega)
          have hox9 := ownsR_kept hox hb89
          have hoT9 := owns_kept hoT hb89
          have hz9 := hb89.size
          clear hb8 hb9 hb89 hB hbx hox hoT hcT
          generalize hF : scFoldF [] ((T.take k).map (sumOf a b)) = F at hFl hox9 HST HWO
          obtain ⟨ax, cx, hax⟩ := readsR_shape (ownsR_reads scC_len hox9)
          subst hax
          have e0 := hbx9.c0
          have e1 := hbx9.c1
          have e2 := hbx9.c2
          have e3 := hbx9.c3
          have e4 := hbx9.c4
          generalize at_ T k = t at HN n1a n1b n2a n2b HST HWO ⊢
          generalize scNum a t = n1 at HN n1a n1b ⊢
          generalize scNum b t = n2 at HN n2a n2b ⊢
          go_wp2_with fail
          rw [clamp_mm]
          refine (scWith_any _ F (t, clampS (n1 + n2)) _ (ownsR_reads scC_len hox9) (by omega)).mono ?_
          rintro e w10 ⟨x10, rfl, ho10, hb10⟩
          have ho10' : ScOwns w10 (w3.heap.size + 1) x10 (scFoldF [] ((T.take (k + 1)).map (sumOf a b))) := by
            rw [HST.out, HN.out]
            change ScOwns w10 _ x10 (scIns (scWo F t) (t, clampS (n1 + n2))) at ho10
            rw [HWO.out] at ho10
            exact ownsR_base ho10 (by omega)
          have hB10 := hB9.trans (hb10.mono hB9.size)
          have hbx10 := box5_below hbx9 hb10 (by omega)
          have hoT10 := owns_kept hoT9 hb10
          have hz10 := hb10.size
          clear ho10 hb10 hB9 hbx9 hox9 hoT9 e0 e1 e2 e3 e4 HST HWO HN hF
          obtain ⟨G, hG⟩ : ∃ G, scFoldF [] ((T.take (k + 1)).map (sumOf a b)) = G := ⟨_, rfl⟩
          have HG : Hid (scFoldF [] ((T.take (k + 1)).map (sumOf a b)) = G) := hG
          rw [hG] at ho10'
          clear hG
          obtain ⟨a10, c10, hx10⟩ := readsR_shape (ownsR_reads scC_len ho10')
          subst hx10
          have e0 := hbx10.c0
          have e1 := hbx10.c1
          have e2 := hbx10.c2
          have e3 := hbx10.c3
          have e4 := hbx10.c4
          have f0 := hbx10.f0
          have f1 := hbx10.f1
          have f2 := hbx10.f2
          have f3 := hbx10.f3
          have f4 := hbx10.f4
          go_wp2_with fail
          clear e0 e1 e2 e3 e4 f0 f1 f2 f3 f4
          go_roundw
          case rel => exact ⟨k + 1, hlt, by go_num, ((((hB10.setCell (by show w.heap.size ≤ w3.heap.size; omega) _).setCell (by show w.heap.size ≤ w3.heap.size; omega) _).setCell (by show w.heap.size ≤ w3.heap.size; omega) _).setCell (by show w.heap.size ≤ w3.heap.size; omega) _).setCell (by show w.heap.size ≤ w3.heap.size; omega) _, by simp; omega, row_set5 hoT10 (by omega) _ _ _ _ _, _, box5_allSc hbx10 _ _ _ _ _, by rw [HG.out]; exact row_set5 ho10' (Nat.lt_succ_self _) _ _ _ _ _⟩
          case measure => simp [intOf]; omega
        · obtain rfl : k = T.length := by omega
          have e0 := hbx.c0
          rw [List.take_length] at hox
          have ho9 := ownsR_base hox (show w.heap.size ≤ w3.heap.size + 1 by omega)
          clear hox
          go_wp2_with fail
          go_ret
          exact ⟨_, rfl, by rw [HR.out]; exact ho9, hB⟩
set_option maxHeartbeats 1000000 in
theorem implSumAny_any (v u : Value) (a b : List (ByteArray × Int)) (w : World) (hr : ScReads w v a) (hq : ScReads w u b) (ha : a.length ≤ 1048576) (hb : b.length ≤ 1048576) :
    Calls Try.prog 8 #[v, u] w fun e w' => ∃ x, e = .returned x ∧ ScOwns w' w.heap.size x (sumAnyR a b) ∧ Below w.heap.size w w' := by
  obtain ⟨aa, ca, rfl⟩ := readsR_shape hr
  obtain ⟨ab, cb, rfl⟩ := readsR_shape hq
  go_enter Try.func8, Try.ntmps8
  go_wp2_with fail
  refine (scoresTogether_any _ _ a b 7 (.inr rfl) _ hr hq ha hb).mono ?_
  rintro e w1 ⟨x, rfl, ho1, hb1⟩
  obtain ⟨ax, cx, rfl⟩ := readsR_shape (ownsR_reads scC_len ho1)
  go_wp2_with fail
  go_ret
  exact ⟨_, rfl, ho1, hb1⟩
set_option maxHeartbeats 1000000 in
theorem implSumBoth_any (v u : Value) (a b : List (ByteArray × Int)) (w : World) (hr : ScReads w v a) (hq : ScReads w u b) (ha : a.length ≤ 1048576) (hb : b.length ≤ 1048576) :
    Calls Try.prog 13 #[v, u] w fun e w' => ∃ x, e = .returned x ∧ ScOwns w' w.heap.size x (sumBothR a b) ∧ Below w.heap.size w w' := by
  obtain ⟨aa, ca, rfl⟩ := readsR_shape hr
  obtain ⟨ab, cb, rfl⟩ := readsR_shape hq
  go_enter Try.func13, Try.ntmps13
  go_wp2_with fail
  refine (scoresTogether_any _ _ a b 4 (.inl rfl) _ hr hq ha hb).mono ?_
  rintro e w1 ⟨x, rfl, ho1, hb1⟩
  obtain ⟨ax, cx, rfl⟩ := readsR_shape (ownsR_reads scC_len ho1)
  go_wp2_with fail
  go_ret
  exact ⟨_, rfl, ho1, hb1⟩
end Go.Proofs.Ytndegickekjkjaa
