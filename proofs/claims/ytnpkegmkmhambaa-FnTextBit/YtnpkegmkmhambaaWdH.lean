/- The program's TextBitCount. -/
import Derived.Test.YtnpkegmkmhambaaWdC
import Derived.Test.YtnpkegmkmhambaaWdG
import Derived.Test.YtnpkegmkmhambaaPlace
namespace Go.Proofs.Ytnpkegmkmhambaa
open Go.RowKit Go.Shelf wd
set_option linter.unusedVariables false

attribute [local go_sem] Oper.semAt_some

def cntV (s : ByteArray) (f t : Int) : Int := if s.size ≤ 40 ∧ placeB f = true ∧ placeB t = true then (pcs s (endA s.size f t) (endE s.size f t - endA s.size f t) : Int) else 0
theorem pc_lt (b : Nat) : pc b ≤ 8 := by unfold pc; omega
theorem pcs_le (s : ByteArray) (a : Nat) : ∀ n, pcs s a n ≤ 8 * n
  | 0 => by simp [pcs]
  | n + 1 => by have := pcs_le s a n; have := pc_lt (byt s (a + n)); rw [pcs]; omega
theorem pcs_add (s : ByteArray) (a n : Nat) : ∀ m, pcs s a (n + m) = pcs s a n + pcs s (a + n) m
  | 0 => by simp [pcs]
  | m + 1 => by rw [← Nat.add_assoc, pcs, pcs_add s a n m, pcs, Nat.add_assoc, ← Nat.add_assoc a n m]
theorem pcs_cut (s : ByteArray) (a e : Nat) (he : e ≤ s.size) : ∀ n, n ≤ e - a → pcs (s.extract a e) 0 n = pcs s a n
  | 0, _ => rfl
  | n + 1, h => by
    rw [pcs, pcs, pcs_cut s a e he n (by omega), Nat.zero_add]
    congr 1; congr 1
    have h1 : n < (s.extract a e).size := by rw [ByteArray.size_extract]; omega
    rw [byt_in h1, byt_in (by omega : a + n < s.size)]
    congr 1
    exact ByteArray.getElem_extract _
theorem pcs_out (s : ByteArray) (a : Nat) : ∀ n, s.size ≤ a → pcs s a n = 0
  | 0, _ => rfl
  | n + 1, h => by rw [pcs, pcs_out s a n h, byt_out (by omega)]; decide
/-- ones of the words whose places are told -/
def sumW (s : ByteArray) : List Nat → Nat
  | [] => 0
  | y :: l => pcs s (8 * min y 5) 8 + sumW s l
theorem sumW_snoc (s : ByteArray) (x : Nat) : ∀ l, sumW s (l ++ [x]) = sumW s l + pcs s (8 * min x 5) 8
  | [] => by simp [sumW]
  | y :: l => by rw [List.cons_append, sumW, sumW, sumW_snoc s x l]; omega
theorem sumW_le (s : ByteArray) : ∀ l, sumW s l ≤ 64 * l.length
  | [] => by simp [sumW]
  | y :: l => by have := sumW_le s l; have := pcs_le s (8 * min y 5) 8; rw [sumW, List.length_cons]; omega
theorem sumW_range (s : ByteArray) : ∀ n, n ≤ 6 → sumW s (List.range n) = pcs s 0 (8 * n)
  | 0, _ => rfl
  | n + 1, h => by
    rw [List.range_succ, sumW_snoc, sumW_range s n (by omega), Nat.mul_add, pcs_add, Nat.zero_add, show min n 5 = n by omega]
theorem sumW_all {s : ByteArray} (h : s.size ≤ 40) : sumW s (List.range (nW s)) = pcs s 0 s.size := by
  rw [sumW_range s _ (by unfold nW; omega)]
  have e : 8 * nW s = s.size + (8 * nW s - s.size) := by unfold nW; omega
  rw [e, pcs_add, Nat.zero_add, pcs_out s s.size _ (Nat.le_refl _), Nat.add_zero]
def sumV (s : ByteArray) (pre : List Nat) : Value := .int .i64 (sumW s pre : Int)
theorem own_sum (s : ByteArray) (B : Nat) (t : TypeId) : Own (fun pre W => Boxed W B t (sumV s pre)) := boxed_own B t (sumV s)
set_option maxRecDepth 100000 in
set_option maxHeartbeats 4000000 in
theorem implCount_in (s : ByteArray) (f t : Int) (hs : s.size ≤ 40) (hf : placeB f = true) (ht : placeB t = true) (w : World) :
    Calls Try.prog 11 #[.string s, .int .i64 f, .int .i64 t] w fun e w' => e = .returned (.int .i64 (cntV s f t)) ∧ Below w.heap.size w w' := by
  have hd40 : decide ((40 : Int) < (s.size : Int)) = false := decide_eq_false (by omega)
  obtain ⟨hae, hen⟩ := ends_le (n := s.size) f t
  obtain ⟨a, ha⟩ : ∃ a, endA s.size f t = a := ⟨_, rfl⟩
  obtain ⟨e, he⟩ : ∃ e, endE s.size f t = e := ⟨_, rfl⟩
  have HV : Hid (cntV s f t = (pcs s a (e - a) : Int)) := by show _ = _; unfold cntV; rw [if_pos ⟨hs, hf, ht⟩, ha, he]
  have hpb := placesBetween_any (s.size : Int) f t
  rw [ha, he] at hae; rw [he] at hen
  rw [ha, he] at hpb
  have HPB : Hid _ := hpb
  have hb1 := place_bd hf
  have hb2 := place_bd ht
  have h1 : (0 : Int) ≤ (a : Int) := by omega
  have h2 : (a : Int) ≤ (e : Int) := by omega
  have h3 : (e : Int) ≤ (s.size : Int) := by omega
  clear ha he hpb
  refine (callsIn_wide (n := 3)).1 ?_
  refine callsIn_of_wp_marks Try.func11 rfl trivial ?_ rfl
  simp only [Try.ntmps11, List.size_toArray, List.length_cons, List.length_nil, Nat.reduceAdd, Nat.reduceSub, Array.replicate_succ, Array.replicate_zero, List.push_toArray, List.append_toArray, List.nil_append, List.cons_append]
  gi_wp2_with (refine ⟨trivial, ?_⟩; gi_at_call 27; refine (callsIn_wide.2 (placeOk_any _ _)).mono ?_; rintro e w' ⟨rfl, rfl⟩; first | rw [hf] | rw [ht])
  refine ⟨trivial, (callsIn_wide.2 (HPB.out _ (by omega) (by omega) hb1 hb2)).mono ?_⟩
  rintro e' w' ⟨rfl, rfl⟩
  have bR := Boxed.new w 3 (.int .i64 0)
  have hB0 : Below w.heap.size w (w.alloc (.cells #[.int .i64 0] 3)) := (Below.refl _ w).alloc (Nat.le_refl _) _
  gi_wp2_with fail
  refine ⟨trivial, (wordsOf_in _ _ _).mono ?_⟩
  rintro e' w' ⟨rfl, rfl⟩
  have hz : (s.extract a e).size ≤ 40 := by rw [ByteArray.size_extract]; omega
  have HS : Hid (pcs (s.extract a e) 0 (s.extract a e).size = pcs s a (e - a)) := by
    show _ = _
    rw [ByteArray.size_extract, Nat.min_eq_left hen]
    exact pcs_cut s a e hen _ (Nat.le_refl _)
  generalize s.extract a e = q at *
  have bT := Boxed.new (w.alloc (.cells #[.int .i64 0] 3)) 9 (.string q)
  have bR := bR.alloc (.cells #[.string q] 9)
  have hB1 := hB0.alloc (by simp) (.cells #[.string q] 9)
  simp only [World.size_alloc] at bT
  obtain ⟨W0, hW0⟩ : ∃ W0, (w.alloc (.cells #[.int .i64 0] 3)).alloc (.cells #[.string q] 9) = W0 := ⟨_, rfl⟩
  have hsz : W0.heap.size = w.heap.size + 2 := by rw [← hW0]; simp
  gi_wp2_with fail
  rw [hW0] at bT bR hB1
  clear hW0 hB0 hd40
  refine wpIn_rangeFunc_ownG rfl (by omega) (gf := 44) (lb := #[.pointer (some ⟨w.heap.size + 1, 0, none⟩)]) rfl trivial (enters_of Try.func44 (by kernel_rfl) rfl)
    (words_stops 2 (by omega) (w.heap.size + 1) w W0 q hz hB1 bT) kpW_t (kpW_b (by omega)) (Below.refl _ _) (fun _ => rfl)
    (fun pre W => Boxed W w.heap.size 3 (sumV q pre) ∧ Below w.heap.size w W)
    (fun _ _ _ => False)
    (OwnFrom.and (Own.from (own_sum q _ _) _) (ownFrom_below (Nat.le_refl _) (by omega)))
    (fun _ _ _ _ _ hs _ _ => hs)
    ⟨bR, hB1⟩
    (fun x => { tmps := #[.string s, .int .i64 f, .int .i64 t, undef, undef, undef, .int .i64 0, .int .i64 (a : Int), .int .i64 (e : Int), .pointer (some ⟨w.heap.size, 0, none⟩), undef, .int .u64 (wf q (8 * min x 5) 8 : Int), .string s, .int .i64 (s.size : Int), .bool false, .bool false, .int .i64 f, .bool true, .bool false, .bool false, .bool false, .int .i64 t, .bool true, .bool false, .bool false, .tuple #[.int .i64 (a : Int), .int .i64 (e : Int)], .string s, .int .i64 (s.size : Int), .int .i64 f, .int .i64 t, .tuple #[.int .i64 (a : Int), .int .i64 (e : Int)], .int .i64 (a : Int), .int .i64 (e : Int), .string s, .int .i64 (a : Int), .int .i64 (e : Int), .string q, .func (.func 44) #[] #[.pointer (some ⟨w.heap.size + 1, 0, none⟩)], .int .i64 (64 * ((min x 5 : Nat) : Int)), .int .u64 (wf q (8 * min x 5) 8 : Int), undef, undef, undef, undef, undef], defers := [] }) ?assign ?body ?done ?stop
  case assign =>
    intro l x W K hK
    gi_wp2
    exact hK
  case body =>
    rintro l pre x W ⟨hR, hB⟩ hlt
    have hcr : W.cell? ⟨w.heap.size, 0, none⟩ = some (.int .i64 (sumW q pre : Int)) := hR.cell
    have hfr := hR.frozen
    have hle := sumW_le q pre
    have hle2 := pcs_le q (8 * min x 5) 8
    have hpre : pre.length ≤ 6 := by unfold nW at hlt; omega
    have HSN : Hid (sumV q (pre ++ [x]) = .int .i64 ((sumW q pre : Int) + (pcs q (8 * min x 5) 8 : Int))) := by show _ = _; unfold sumV; rw [sumW_snoc]; rfl
    clear hlt
    have hmx : Try.prog.follows .mixedOrders = true := by kernel_rfl
    gi_wp2
    gi_region_with_o (refine ⟨trivial, ?_⟩; gi_at_call 29; refine (CallsIn.inRound l (callsIn_wide.2 (ones_any _ _ _))).mono ?_; rintro e' w' ⟨rfl, rfl⟩)
    all_goals gi_wp2
    all_goals
      have hw : IntKind.i64.wrap ((sumW q pre : Int) + (pcs q (8 * min x 5) 8 : Int)) = (sumW q pre : Int) + (pcs q (8 * min x 5) 8 : Int) := by
        unfold IntKind.wrap; simp [IntKind.signed, IntKind.bits]; omega
      rw [hw, ← HSN.out]
      exact ⟨((KeepsOthers.setCell _ _ _).trans (KeepsOthers.drew _)).from _, ⟨((Below.refl _ W).setCell (p := ⟨w.heap.size, 0, none⟩) (Nat.le_refl _) _).drew, fun v h => (h.other (by omega) _ : Boxed (W.setCell ⟨w.heap.size, 0, none⟩ _) (w.heap.size + 1) 9 v)⟩, (hR.set _ : Boxed (W.setCell ⟨w.heap.size, 0, none⟩ _) w.heap.size 3 _), (hB.setCell (p := ⟨w.heap.size, 0, none⟩) (Nat.le_refl _) _).drew⟩
  case done =>
    rintro D ys W hD rfl ⟨hR, hB⟩ hK
    have HSA : Hid ((sumW q (List.range (nW q)) : Int) = cntV s f t) := by show _ = _; rw [sumW_all hz, HS.out, HV.out]
    have hcr : W.cell? ⟨w.heap.size, 0, none⟩ = some (.int .i64 (sumW q (List.range (nW q)) : Int)) := hR.cell
    gi_wp2
    refine ⟨by simp, .inl ⟨_, _, rfl, run_takeDeferred hK, ?_⟩⟩
    refine ⟨_, results_tmp rfl _ _ _, ?_, hB.trans (belowK_b (w := w) (Nat.le_refl _) W D _ _ (by omega) hK rfl rfl)⟩
    exact wret_i HSA.out
  case stop =>
    rintro D c pre W _ _ h _
    exact h.elim
end Go.Proofs.Ytnpkegmkmhambaa
