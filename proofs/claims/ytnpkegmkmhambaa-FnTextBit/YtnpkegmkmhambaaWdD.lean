/- The program's TextBitGet. -/
import Derived.Test.YtnpkegmkmhambaaWdC
namespace Go.Proofs.Ytnpkegmkmhambaa
open Go.RowKit Go.Shelf wd
set_option linter.unusedVariables false

attribute [local go_sem] Oper.semAt_some

def getV (s : ByteArray) (a : Int) : Int := if bplB s a = true then (bit s a.toNat : Int) else 0
/-- bit a of the word at place x, whatever both are -/
def wbit (s : ByteArray) (a x : Nat) : Int := bits .and .u64 ((wf s (8 * x) 8 : Int) / 2 ^ (64 * x + 63 - a)) 1
theorem wbit_eq {s : ByteArray} {a x : Nat} (h1 : 64 * x ≤ a) (h2 : a < 64 * x + 64) : wbit s a x = (bit s a : Int) := by
  have hl := wf_lt s (8 * x) 8
  have e : ((wf s (8 * x) 8 : Int) / 2 ^ (64 * x + 63 - a)) = ((wf s (8 * x) 8 / 2 ^ (64 * x + 63 - a) : Nat) : Int) := by simp
  have hd : wf s (8 * x) 8 / 2 ^ (64 * x + 63 - a) ≤ wf s (8 * x) 8 := Nat.div_le_self _ _
  have h8 : (256 : Nat) ^ 8 = 18446744073709551616 := by decide
  rw [h8] at hl
  unfold wbit
  generalize hg : wf s (8 * x) 8 / 2 ^ (64 * x + 63 - a) = g at *
  rw [e, and_one_u64 _ (by omega) (by omega)]
  have := wf_bit s (8 * x) (t := a - 64 * x) (by omega)
  rw [show 63 - (a - 64 * x) = 64 * x + 63 - a by omega, show 8 * (8 * x) + (a - 64 * x) = a by omega, hg] at this
  rw [← this]; omega
theorem shr_run (P : Program) (s : ByteArray) (k m : Nat) (h : (k : Int) < 64 * (m : Int) + 64) (W : World) :
    (Op.shift .shr .u64 (wf s (8 * m) 8 : Int) .i64 (64 * (m : Int) + 64 - 1 - (k : Int))).run P W = .ok (.int .u64 ((wf s (8 * m) 8 : Int) / 2 ^ (64 * m + 63 - k))) W := by
  have hl := wf_lt s (8 * m) 8
  have h8 : (256 : Nat) ^ 8 = 2 ^ 64 := by decide
  rw [h8] at hl
  have hn : (64 * (m : Int) + 64 - 1 - (k : Int)).toNat = 64 * m + 63 - k := by omega
  unfold Op.shift
  rw [if_neg (by omega)]
  simp only [hn]
  have key : (wf s (8 * m) 8 : Int).fdiv (2 ^ min (64 * m + 63 - k) 64) = (wf s (8 * m) 8 : Int) / 2 ^ (64 * m + 63 - k) := by
    rw [Int.fdiv_eq_ediv_of_nonneg _ (Int.le_of_lt (Int.pow_pos (by decide)))]
    by_cases hc : 64 * m + 63 - k ≤ 64
    · rw [Nat.min_eq_left hc]
    · rw [Nat.min_eq_right (by omega)]
      have e1 : wf s (8 * m) 8 / 2 ^ 64 = 0 := Nat.div_eq_of_lt hl
      have e2 : wf s (8 * m) 8 / 2 ^ (64 * m + 63 - k) = 0 := Nat.div_eq_of_lt (Nat.lt_of_lt_of_le hl (Nat.pow_le_pow_right (by decide) (by omega)))
      have f1 : (wf s (8 * m) 8 : Int) / 2 ^ 64 = ((wf s (8 * m) 8 / 2 ^ 64 : Nat) : Int) := by simp
      have f2 : (wf s (8 * m) 8 : Int) / 2 ^ (64 * m + 63 - k) = ((wf s (8 * m) 8 / 2 ^ (64 * m + 63 - k) : Nat) : Int) := by simp
      rw [f1, f2, e1, e2]
  show Result.ok (Value.int IntKind.u64 ((wf s (8 * m) 8 : Int).fdiv (2 ^ min (64 * m + 63 - k) 64))) W = _
  rw [key]
theorem wbit01 (s : ByteArray) (k m : Nat) : wrap64 (wbit s k m) = wbit s k m := by
  have hl := wf_lt s (8 * m) 8
  have h8 : (256 : Nat) ^ 8 = 18446744073709551616 := by decide
  rw [h8] at hl
  have hd : wf s (8 * m) 8 / 2 ^ (64 * m + 63 - k) ≤ wf s (8 * m) 8 := Nat.div_le_self _ _
  have e : ((wf s (8 * m) 8 : Int) / 2 ^ (64 * m + 63 - k)) = ((wf s (8 * m) 8 / 2 ^ (64 * m + 63 - k) : Nat) : Int) := by simp
  unfold wbit wrap64
  generalize wf s (8 * m) 8 / 2 ^ (64 * m + 63 - k) = g at *
  rw [e, and_one_u64 _ (by omega) (by omega)]
  omega
/-- what a round that leaves has put -/
def lastV (s : ByteArray) (k : Nat) (pre : List Nat) : Value := .int .i64 (wbit s k (min (pre.getLastD 0) 5))
def LeftW (k : Nat) (c : Code) (pre : List Nat) : Prop := c = .ret ∧ ∃ p x, pre = p ++ [x] ∧ (∀ y ∈ p, 64 * min y 5 + 64 ≤ k) ∧ k < 64 * min x 5 + 64
theorem own_left (s : ByteArray) (k B : Nat) (t : TypeId) (c : Code) : Own (fun pre W => LeftW k c pre ∧ Boxed W B t (lastV s k pre)) := fun s' A B' row hs hg hr =>
  have h : Own (fun pre W => Boxed W B t (lastV s k pre)) := boxed_own B t (lastV s k)
  ⟨hs.1, h s' A B' row hs.2 hg hr⟩
theorem own_go (k B B2 : Nat) (t : TypeId) (u v : Value) : Own (fun (pre : List Nat) W => (∀ y ∈ pre, 64 * min y 5 + 64 ≤ k) ∧ Boxed W B t u ∧ Boxed W B2 t v) := fun s' A B' row hs hg hr =>
  have h : Own (fun (_ : List Nat) W => Boxed W B t u) := boxed_own B t (fun _ => u)
  have h2 : Own (fun (_ : List Nat) W => Boxed W B2 t v) := boxed_own B2 t (fun _ => v)
  ⟨hs.1, h s' A B' row hs.2.1 hg hr, h2 s' A B' row hs.2.2 hg hr⟩
set_option maxRecDepth 100000 in
set_option maxHeartbeats 4000000 in
theorem implBitGet_any (s : ByteArray) (a : Int) (w : World) :
    Calls Try.prog 9 #[.string s, .int .i64 a] w fun e w' => e = .returned (.int .i64 (getV s a)) ∧ Below w.heap.size w w' := by
  refine (callsIn_wide (n := 3)).1 ?_
  refine callsIn_of_wp_marks Try.func9 rfl trivial ?_ rfl
  simp only [Try.ntmps9, List.size_toArray, List.length_cons, List.length_nil, Nat.reduceAdd, Nat.reduceSub, Array.replicate_succ, Array.replicate_zero, List.push_toArray, List.append_toArray, List.nil_append, List.cons_append]
  gi_wp2_with fail
  refine ⟨trivial, (callsIn_wide.2 (bitPlaceOk_any _ _ _)).mono ?_⟩
  rintro e w' ⟨rfl, rfl⟩
  have bA := (Boxed.new w 3 (.int .i64 a)).alloc (.cells #[.int .i64 0] 3)
  have bR := Boxed.new (w.alloc (.cells #[.int .i64 a] 3)) 3 (.int .i64 0)
  simp only [World.size_alloc] at bR
  have hB0 : Below w.heap.size w ((w.alloc (.cells #[.int .i64 a] 3)).alloc (.cells #[.int .i64 0] 3)) := ((Below.refl _ w).alloc (Nat.le_refl _) _).alloc (by simp) _
  cases hp : bplB s a with
  | false =>
    have HV : Hid (getV s a = 0) := by show _ = _; unfold getV; rw [hp]; rfl
    clear hp
    gi_wp2_with fail
    have hc5 := bR.cell
    refine ⟨.int .i64 0, ?_, wret_i HV.out.symm, hB0⟩
    simp [results, Try.f9, go_sem, hc5]
  | true =>
    have HV : Hid (getV s a = (bit s a.toNat : Int)) := by show _ = _; unfold getV; rw [if_pos hp]
    obtain ⟨hs, h0, h3⟩ : s.size ≤ 40 ∧ 0 ≤ a ∧ a < 320 := by
      unfold bplB at hp
      simp only [Bool.and_eq_true, decide_eq_true_eq] at hp
      omega
    obtain ⟨k, rfl⟩ := Int.eq_ofNat_of_zero_le h0
    clear hp h0
    have HV : Hid (getV s (k : Int) = (bit s k : Int)) := HV
    have hk : k < 320 := by omega
    gi_wp2_with fail
    refine ⟨trivial, (wordsOf_in _ _ _).mono ?_⟩
    rintro e w' ⟨rfl, rfl⟩
    have bT := Boxed.new ((w.alloc (.cells #[.int .i64 (k : Int)] 3)).alloc (.cells #[.int .i64 0] 3)) 9 (.string s)
    have bA := bA.alloc (.cells #[.string s] 9)
    have bR := bR.alloc (.cells #[.string s] 9)
    have hB1 := hB0.alloc (by simp; omega) (.cells #[.string s] 9)
    simp only [World.size_alloc] at bT
    obtain ⟨W0, hW0⟩ : ∃ W0, ((w.alloc (.cells #[.int .i64 (k : Int)] 3)).alloc (.cells #[.int .i64 0] 3)).alloc (.cells #[.string s] 9) = W0 := ⟨_, rfl⟩
    have hsz : W0.heap.size = w.heap.size + 3 := by rw [← hW0]; simp
    gi_wp2_with fail
    rw [hW0] at bT bA bR hB1
    clear hW0 hB0
    refine wpIn_rangeFunc_ownG rfl (by omega) (gf := 44) (lb := #[.pointer (some ⟨w.heap.size + 1 + 1, 0, none⟩)]) rfl trivial (enters_of Try.func44 (by kernel_rfl) rfl)
      (words_stops 2 (by omega) (w.heap.size + 1 + 1) w W0 s hs hB1 bT) kpW_t (kpW_b (by omega)) (Below.refl _ _) (fun _ => rfl)
      (fun pre W => ((∀ y ∈ pre, 64 * min y 5 + 64 ≤ k) ∧ Boxed W w.heap.size 3 (.int .i64 (k : Int)) ∧ Boxed W (w.heap.size + 1) 3 (.int .i64 0)) ∧ Below w.heap.size w W)
      (fun c pre W => (LeftW k c pre ∧ Boxed W (w.heap.size + 1) 3 (lastV s k pre)) ∧ Below w.heap.size w W)
      (OwnFrom.and (Own.from (own_go k _ _ _ _ _) _) (ownFrom_below (Nat.le_refl _) (by omega)))
      (fun c => OwnFrom.and (Own.from (own_left s k _ _ c) _) (ownFrom_below (Nat.le_refl _) (by omega)))
      ⟨⟨by simp, bA, bR⟩, hB1⟩
      (fun x => { tmps := #[.string s, .int .i64 (k : Int), undef, .pointer (some ⟨w.heap.size, 0, none⟩), .pointer (some ⟨w.heap.size + 1, 0, none⟩), .int .i64 (64 * ((min x 5 : Nat) : Int)), .int .u64 (wf s (8 * min x 5) 8 : Int), .string s, .int .i64 (k : Int), .bool true, .bool false, .string s, .func (.func 44) #[] #[.pointer (some ⟨w.heap.size + 1 + 1, 0, none⟩)], .int .i64 (64 * ((min x 5 : Nat) : Int)), .int .u64 (wf s (8 * min x 5) 8 : Int), undef, undef, undef, undef, undef, undef, undef, undef, undef, undef, undef, undef, undef], defers := [] }) ?assign ?body ?done ?stop
    case assign =>
      intro l x W K hK
      gi_wp2
      exact hK
    case body =>
      rintro l pre x W ⟨⟨hp, hA, hR⟩, hB⟩ hlt
      have hca := hA.cell
      have hcr := hR.cell
      have hfr := hR.frozen
      have HP : Hid (∀ y ∈ pre, 64 * min y 5 + 64 ≤ k) := hp
      clear hp
      generalize hm : min x 5 = m at *
      have hm5 : m ≤ 5 := by omega
      have HM : Hid (min x 5 = m) := hm
      clear hm
      by_cases hin : (k : Int) < 64 * (m : Int) + 64
      · have hsh := shr_run Try.prog s k m hin
        gi_wp2
        have hw1 : wrap64 (bits BinOp.and IntKind.u64 ((wf s (8 * m) 8 : Int) / 2 ^ (64 * m + 63 - k)) 1) = wbit s k m := wbit01 s k m
        rw [hw1]
        refine ⟨(KeepsOthers.setCell _ _ _).from _, ⟨⟨rfl, pre, x, rfl, HP.out, by rw [HM.out]; omega⟩, ?_⟩, hB.setCell (p := ⟨w.heap.size + 1, 0, none⟩) (by simp) _⟩
        have hl : lastV s k (pre ++ [x]) = .int .i64 (wbit s k m) := by unfold lastV; simp [HM.out]
        rw [hl]
        exact hR.set _
      · gi_wp2
        exact ⟨KeepsFrom.refl _ _, ⟨Below.refl _ _, fun _ h => h⟩, ⟨fun y hy => (List.mem_append.1 hy).elim (HP.out y) (fun e => by simp at e; subst e; rw [HM.out]; omega), hA, hR⟩, hB⟩
    case done =>
      rintro D ys W hD rfl ⟨⟨hne, hA, hR⟩, hB⟩ hK
      have hbit : bit s k = 0 := by
        refine bit_out ?_
        by_cases h0 : nW s = 0
        · unfold nW at h0; omega
        · have := hne (nW s - 1) (List.mem_range.2 (by omega))
          unfold nW at this h0
          omega
      have HB0 : Hid _ := hbit
      have hcr := hR.cell
      have hfr := hR.frozen
      clear hne hbit
      gi_wp2
      have hR' := hR.set (.int .i64 0)
      have hK' := (KeepsOthers.setCell W ⟨w.heap.size + 1, 0, none⟩ (.int .i64 0)).same D _ hK rfl
      refine ⟨by simp, .inl ⟨_, _, rfl, run_takeDeferred hK', ?_⟩⟩
      have hc5 := (hR'.kept (grownBy_putObj' _ D (.deferred none)) (by simp; omega)).cell
      refine ⟨.int .i64 0, ?_, wret_i (by rw [HV.out, HB0.out]; rfl), (hB.setCell (p := ⟨w.heap.size + 1, 0, none⟩) (by simp) _).trans (belowK_b (w := w) (Nat.le_refl _) _ D _ _ (by omega) hK' rfl rfl)⟩
      simp [results, Try.f9, go_sem, hc5]
    case stop =>
      rintro D c pre W hD hpre ⟨⟨⟨rfl, p, x, rfl, hne, hin⟩, hR⟩, hB⟩ hK
      obtain ⟨hx, hp⟩ := range_last hpre
      have hx5 : min x 5 = x := by unfold nW at hx; omega
      have hl : lastV s k (p ++ [x]) = .int .i64 (bit s k : Int) := by
        unfold lastV
        rw [show (p ++ [x]).getLastD 0 = x by simp, hx5]
        rw [hx5] at hin
        rw [wbit_eq ?_ hin]
        by_cases h0 : x = 0
        · omega
        · have := hne (x - 1) (by rw [hp]; exact List.mem_range.2 (by omega))
          unfold nW at hx
          omega
      rw [hl] at hR
      gi_wp2
      refine ⟨by simp, .inl ⟨_, _, rfl, run_takeDeferred hK, ?_⟩⟩
      have hc5 := (hR.kept (grownBy_putObj' _ D (.deferred none)) (by simp; omega)).cell
      refine ⟨.int .i64 (bit s k : Int), ?_, wret_i HV.out.symm, hB.trans (belowK_b (w := w) (Nat.le_refl _) W D _ _ (by omega) hK rfl rfl)⟩
      simp [results, Try.f9, go_sem, hc5]
end Go.Proofs.Ytnpkegmkmhambaa
