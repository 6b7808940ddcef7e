/- The program's TextBitFind. -/
import Derived.Test.YtnpkegmkmhambaaWdC
import Derived.Test.YtnpkegmkmhambaaWdE
import Derived.Lib.Strings
namespace Go.Proofs.Ytnpkegmkmhambaa
open Go.RowKit Go.Shelf wd
set_option linter.unusedVariables false

attribute [local go_sem] Oper.semAt_some

/-- a word as it is, or each bit of it the other way -/
def wvar (s : ByteArray) (c x : Nat) : Nat := if c = 0 then 18446744073709551615 - wf s (8 * x) 8 else wf s (8 * x) 8
theorem wf8 (s : ByteArray) (k : Nat) : wf s k 8 < 18446744073709551616 := by
  have h := wf_lt s k 8
  have h8 : (256 : Nat) ^ 8 = 18446744073709551616 := by decide
  omega
theorem wvar_lt (s : ByteArray) (c x : Nat) : wvar s c x < 18446744073709551616 := by
  have := wf8 s (8 * x)
  unfold wvar; split <;> omega
theorem xor_all (n : Nat) (h : n < 18446744073709551616) : 18446744073709551615 ^^^ n = 18446744073709551615 - n := by
  have h1 := BitVec.toNat_not (x := BitVec.ofNat 64 n)
  have h2 : ~~~ (BitVec.ofNat 64 n) = BitVec.allOnes 64 ^^^ BitVec.ofNat 64 n := BitVec.allOnes_xor.symm
  rw [h2, BitVec.toNat_xor, BitVec.toNat_allOnes, BitVec.toNat_ofNat, Nat.mod_eq_of_lt h] at h1
  exact h1
theorem xor_run (s : ByteArray) (x : Nat) : bits .xor .u64 18446744073709551615 (wf s (8 * x) 8 : Int) = (wvar s 0 x : Int) := by
  have := wf8 s (8 * x)
  rw [show (18446744073709551615 : Int) = ((18446744073709551615 : Nat) : Int) from rfl, u64_xor_nat _ _ (by decide) this, xor_all _ this]
  unfold wvar; rw [if_pos rfl]
theorem compl_bit {w j : Nat} (hw : w < 18446744073709551616) (hj : j ≤ 63) : (18446744073709551615 - w) / 2 ^ j % 2 = 1 - w / 2 ^ j % 2 := by
  obtain ⟨m, hm⟩ : ∃ m, 63 - j = m := ⟨_, rfl⟩
  have hp : 0 < 2 ^ j := Nat.pow_pos (by decide)
  have e64 : 2 ^ j * (2 ^ m * 2) = 18446744073709551616 := by
    rw [← Nat.pow_succ, ← Nat.pow_add, show j + (m + 1) = 64 by omega]
  have hq : w / 2 ^ j < 2 ^ m * 2 := by rw [Nat.div_lt_iff_lt_mul hp, Nat.mul_comm, e64]; exact hw
  have hd := Nat.div_add_mod w (2 ^ j)
  have hr := Nat.mod_lt w hp
  generalize w / 2 ^ j = q at *
  generalize w % 2 ^ j = r at *
  have e1 : 2 ^ j * (2 ^ m * 2 - 1 - q) + 2 ^ j + 2 ^ j * q = 18446744073709551616 := by
    rw [← e64, ← Nat.mul_add_one, ← Nat.mul_add]; congr 1; omega
  have e2 : 18446744073709551615 - w = 2 ^ j * (2 ^ m * 2 - 1 - q) + (2 ^ j - 1 - r) := by
    rw [← hd]; omega
  rw [e2, Nat.mul_add_div hp, Nat.div_eq_of_lt (by omega), Nat.add_zero]
  omega
/-- what the bits of a word say of the text's -/
theorem wvar_bit (s : ByteArray) {c : Nat} (hc : c = 0 ∨ c = 1) (x : Nat) {t : Nat} (ht : t < 64) : (wvar s c x / 2 ^ (63 - t) % 2 = 1 ↔ bit s (64 * x + t) = c) := by
  have h := wf_bit s (8 * x) ht
  rw [show 8 * (8 * x) + t = 64 * x + t by omega] at h
  have hb := bit_lt s (64 * x + t)
  unfold wvar
  rcases hc with rfl | rfl
  · rw [if_pos rfl, compl_bit (wf8 _ _) (by omega), h]; omega
  · rw [if_neg (by decide), h]
theorem wvar_none {s : ByteArray} {c : Nat} (hc : c = 0 ∨ c = 1) {x : Nat} (h : wvar s c x = 0) {t : Nat} (ht : t < 64) : bit s (64 * x + t) ≠ c := by
  intro e
  have := (wvar_bit s hc x ht).2 e
  rw [h, Nat.zero_div] at this; cases this
theorem wvar_first {s : ByteArray} {c : Nat} (hc : c = 0 ∨ c = 1) {x t : Nat} (ht : t < 64) (h1 : 2 ^ (63 - t) ≤ wvar s c x) (h2 : wvar s c x < 2 ^ (64 - t)) :
    bit s (64 * x + t) = c ∧ ∀ j, j < t → bit s (64 * x + j) ≠ c := by
  refine ⟨(wvar_bit s hc x ht).1 ?_, fun j hj e => ?_⟩
  · have hp : 0 < 2 ^ (63 - t) := Nat.pow_pos (by decide)
    have a : 1 ≤ wvar s c x / 2 ^ (63 - t) := (Nat.le_div_iff_mul_le hp).2 (by omega)
    have b : wvar s c x / 2 ^ (63 - t) < 2 := by
      rw [Nat.div_lt_iff_lt_mul hp, Nat.mul_comm, ← Nat.pow_succ, show (63 - t).succ = 64 - t by omega]; exact h2
    omega
  · have := (wvar_bit s hc x (by omega : j < 64)).2 e
    rw [Nat.div_eq_of_lt (Nat.lt_of_lt_of_le h2 (Nat.pow_le_pow_right (by decide) (by omega)))] at this
    cases this

/-- r is the first place of a bit c; behind the end for 0, -1 for 1, if there is none -/
def FindR (s : ByteArray) (c : Nat) (r : Int) : Prop :=
  (∃ i : Nat, r = (i : Int) ∧ i < 8 * s.size ∧ bit s i = c ∧ ∀ j, j < i → bit s j ≠ c) ∨ ((∀ j, j < 8 * s.size → bit s j ≠ c) ∧ r = if c = 0 then ((8 * s.size : Nat) : Int) else -1)
theorem findR_one {s : ByteArray} {c : Nat} {r q : Int} (h : FindR s c r) (k : FindR s c q) : r = q := by
  rcases h with ⟨i, rfl, h1, h2, h3⟩ | ⟨h1, rfl⟩
  · rcases k with ⟨j, rfl, k1, k2, k3⟩ | ⟨k1, rfl⟩
    · rcases Nat.lt_trichotomy i j with h | h | h
      · exact absurd h2 (k3 i h)
      · rw [h]
      · exact absurd k2 (h3 j h)
    · exact absurd h2 (k1 i h1)
  · rcases k with ⟨j, rfl, k1, k2, k3⟩ | ⟨k1, rfl⟩
    · exact absurd k2 (h1 j k1)
    · rfl
/-- none in the first x words, and the first in this one -/
theorem findR_word {s : ByteArray} {c : Nat} (hc : c = 0 ∨ c = 1) {x t : Nat} (hx : x < nW s) (hno : ∀ y, y < x → wvar s c y = 0) (ht : t < 64) (h1 : 2 ^ (63 - t) ≤ wvar s c x) (h2 : wvar s c x < 2 ^ (64 - t)) :
    FindR s c (64 * (x : Int) + (t : Int)) := by
  obtain ⟨ha, hb⟩ := wvar_first hc ht h1 h2
  have hno' : ∀ j, j < 64 * x + t → bit s j ≠ c := by
    intro j hj
    by_cases h : j < 64 * x
    · have := wvar_none hc (hno (j / 64) (by omega)) (t := j % 64) (Nat.mod_lt _ (by decide))
      rwa [show 64 * (j / 64) + j % 64 = j by omega] at this
    · have := hb (j - 64 * x) (by omega)
      rwa [show 64 * x + (j - 64 * x) = j by omega] at this
  by_cases hi : 64 * x + t < 8 * s.size
  · exact .inl ⟨64 * x + t, by omega, hi, ha, hno'⟩
  · refine .inr ⟨fun j hj => hno' j (by omega), ?_⟩
    have hz : bit s (64 * x + t) = 0 := bit_out (by omega)
    have hc0 : c = 0 := by omega
    subst hc0
    rw [if_pos rfl]
    have : ¬ 8 * s.size < 64 * x + t := fun h => hno' _ h (bit_out (by omega))
    omega
theorem findR_none {s : ByteArray} {c : Nat} (hc : c = 0 ∨ c = 1) (hno : ∀ y, y < nW s → wvar s c y = 0) : FindR s c (if c = 0 then ((8 * s.size : Nat) : Int) else -1) := by
  refine .inr ⟨fun j hj => ?_, rfl⟩
  have := wvar_none hc (hno (j / 64) (by unfold nW; omega)) (t := j % 64) (Nat.mod_lt _ (by decide))
  rwa [show 64 * (j / 64) + j % 64 = j by omega] at this
def LeftF (s : ByteArray) (c : Nat) (d : Code) (pre : List Nat) (t : Nat) : Prop := d = .ret ∧ t < 64 ∧ ∃ p x, pre = p ++ [x] ∧ (∀ y ∈ p, wvar s c (min y 5) = 0) ∧ 2 ^ (63 - t) ≤ wvar s c (min x 5) ∧ wvar s c (min x 5) < 2 ^ (64 - t)
def atV (pre : List Nat) (t : Nat) : Value := .int .i64 (64 * ((min (pre.getLastD 0) 5 : Nat) : Int) + (t : Int))
theorem own_leftF (s : ByteArray) (c B : Nat) (ty : TypeId) (d : Code) : Own (fun pre W => ∃ t, LeftF s c d pre t ∧ Boxed W B ty (atV pre t)) := fun s' A B' row hs hg hr => by
  obtain ⟨t, h1, h2⟩ := hs
  have h : Own (fun pre W => Boxed W B ty (atV pre t)) := boxed_own B ty (fun pre => atV pre t)
  exact ⟨t, h1, h s' A B' row h2 hg hr⟩
theorem own_goF (s : ByteArray) (c B B2 : Nat) (t : TypeId) (u v : Value) : Own (fun (pre : List Nat) W => (∀ y ∈ pre, wvar s c (min y 5) = 0) ∧ Boxed W B t u ∧ Boxed W B2 t v) := fun s' A B' row hs hg hr =>
  have h : Own (fun (_ : List Nat) W => Boxed W B t u) := boxed_own B t (fun _ => u)
  have h2 : Own (fun (_ : List Nat) W => Boxed W B2 t v) := boxed_own B2 t (fun _ => v)
  ⟨hs.1, h s' A B' row hs.2.1 hg hr, h2 s' A B' row hs.2.2 hg hr⟩
set_option maxRecDepth 100000 in
set_option maxHeartbeats 4000000 in
theorem implBitFind_in (s : ByteArray) (c : Nat) (hc : c = 0 ∨ c = 1) (hs : s.size ≤ 40) (h0 : s.size ≠ 0) (w : World) :
    Calls Try.prog 15 #[.string s, .int .i64 (c : Int)] w fun e w' => (∃ r, e = .returned (.int .i64 r) ∧ FindR s c r) ∧ Below w.heap.size w w' := by
  have hne : (s.toList == []) = false := by
    rw [beq_eq_false_iff_ne]
    intro e
    have := congrArg List.length e
    rw [Lib.toList_data] at this
    have h2 : s.data.toList.length = s.size := by simp
    rw [h2] at this
    exact h0 this
  have hok : (decide ((c : Int) = 0) || decide ((c : Int) = 1)) = true := by rcases hc with rfl | rfl <;> decide
  have hs' : (s.size : Int) ≤ 40 := by omega
  have hd40 : decide ((40 : Int) < (s.size : Int)) = false := decide_eq_false (by omega)
  refine (callsIn_wide (n := 3)).1 ?_
  refine callsIn_of_wp_marks Try.func15 rfl trivial ?_ rfl
  simp only [Try.ntmps15, List.size_toArray, List.length_cons, List.length_nil, Nat.reduceAdd, Nat.reduceSub, Array.replicate_succ, Array.replicate_zero, List.push_toArray, List.append_toArray, List.nil_append, List.cons_append]
  gi_wp2_with fail
  refine ⟨trivial, (callsIn_wide.2 (bitOk_any _ _)).mono ?_⟩
  rintro e w' ⟨rfl, rfl⟩
  have bA := (Boxed.new w 3 (.int .i64 (c : Int))).alloc (.cells #[.int .i64 0] 3)
  have bR := Boxed.new (w.alloc (.cells #[.int .i64 (c : Int)] 3)) 3 (.int .i64 0)
  simp only [World.size_alloc] at bR
  have hB0 : Below w.heap.size w ((w.alloc (.cells #[.int .i64 (c : Int)] 3)).alloc (.cells #[.int .i64 0] 3)) := ((Below.refl _ w).alloc (Nat.le_refl _) _).alloc (by simp) _
  rw [hok]
  gi_wp2_with fail
  refine ⟨trivial, (wordsOf_in _ _ _).mono ?_⟩
  rintro e w' ⟨rfl, rfl⟩
  have bT := Boxed.new ((w.alloc (.cells #[.int .i64 (c : Int)] 3)).alloc (.cells #[.int .i64 0] 3)) 9 (.string s)
  have bA := bA.alloc (.cells #[.string s] 9)
  have bR := bR.alloc (.cells #[.string s] 9)
  have hB1 := hB0.alloc (by simp; omega) (.cells #[.string s] 9)
  simp only [World.size_alloc] at bT
  obtain ⟨W0, hW0⟩ : ∃ W0, ((w.alloc (.cells #[.int .i64 (c : Int)] 3)).alloc (.cells #[.int .i64 0] 3)).alloc (.cells #[.string s] 9) = W0 := ⟨_, rfl⟩
  have hsz : W0.heap.size = w.heap.size + 3 := by rw [← hW0]; simp
  gi_wp2_with fail
  rw [hW0] at bT bA bR hB1
  clear hW0 hB0 hne hok hs'
  have hfin : ∀ y ∈ List.range (nW s), min y 5 = y := fun y hy => by have := List.mem_range.1 hy; unfold nW at this; omega
  refine wpIn_rangeFunc_ownG rfl (by omega) (gf := 44) (lb := #[.pointer (some ⟨w.heap.size + 1 + 1, 0, none⟩)]) rfl trivial (enters_of Try.func44 (by kernel_rfl) rfl)
    (words_stops 2 (by omega) (w.heap.size + 1 + 1) w W0 s hs hB1 bT) kpW_t (kpW_b (by omega)) (Below.refl _ _) (fun _ => rfl)
    (fun pre W => ((∀ y ∈ pre, wvar s c (min y 5) = 0) ∧ Boxed W w.heap.size 3 (.int .i64 (c : Int)) ∧ Boxed W (w.heap.size + 1) 3 (.int .i64 0)) ∧ Below w.heap.size w W)
    (fun d pre W => (∃ t, LeftF s c d pre t ∧ Boxed W (w.heap.size + 1) 3 (atV pre t)) ∧ Below w.heap.size w W)
    (OwnFrom.and (Own.from (own_goF s c _ _ _ _ _) _) (ownFrom_below (Nat.le_refl _) (by omega)))
    (fun d => OwnFrom.and (Own.from (own_leftF s c _ _ d) _) (ownFrom_below (Nat.le_refl _) (by omega)))
    ⟨⟨by simp, bA, bR⟩, hB1⟩
    (fun x => { tmps := #[.string s, .int .i64 (c : Int), undef, .pointer (some ⟨w.heap.size, 0, none⟩), .pointer (some ⟨w.heap.size + 1, 0, none⟩), .int .i64 (64 * ((min x 5 : Nat) : Int)), .int .u64 (wf s (8 * min x 5) 8 : Int), .string s, .bool false, .bool false, .string s, .int .i64 (s.size : Int), .bool false, .bool false, .bool false, .int .i64 (c : Int), .bool true, .bool false, .bool false, .string s, .func (.func 44) #[] #[.pointer (some ⟨w.heap.size + 1 + 1, 0, none⟩)], .int .i64 (64 * ((min x 5 : Nat) : Int)), .int .u64 (wf s (8 * min x 5) 8 : Int), undef, undef, undef, undef, undef, undef, undef, undef, undef, undef, undef, undef, undef, undef, undef], defers := [] }) ?assign ?body ?done ?stop
  case assign =>
    intro l x W K hK
    gi_wp2
    exact hK
  case body =>
    rintro l pre x W ⟨⟨hp, hA, hR⟩, hB⟩ hlt
    have hca := hA.cell
    have hcr := hR.cell
    have hfr := hR.frozen
    have HP : Hid (∀ y ∈ pre, wvar s c (min y 5) = 0) := hp
    clear hp hfin hsz bT bA bR hB1
    generalize hm : min x 5 = m at *
    have hm5 : m ≤ 5 := by omega
    have HM : Hid (min x 5 = m) := hm
    clear hm
    have hv := wvar_lt s c m
    rcases hc with rfl | rfl
    · have hx := xor_run s m
      have hmax : IntKind.u64.max = 18446744073709551615 := rfl
      have hsg : IntKind.u64.signed = false := rfl
      by_cases hz : wvar s 0 m = 0
      · have hz' : (((wvar s 0 m : Int) : Int) == 0) = true := by rw [hz]; rfl
        gi_wp2
        exact ⟨KeepsFrom.refl _ _, ⟨Below.refl _ _, fun _ h => h⟩, ⟨fun y hy => (List.mem_append.1 hy).elim (HP.out y) (fun e => by simp at e; subst e; rw [HM.out]; exact hz), hA, hR⟩, hB⟩
      · have hz' : (((wvar s 0 m : Int) : Int) == 0) = false := by rw [beq_eq_false_iff_ne]; omega
        gi_wp2
        refine ⟨trivial, (CallsIn.inRound l (callsIn_wide.2 (leadingZeros_any (wvar s 0 m) W hv hz))).mono ?_⟩
        rintro e w' ⟨⟨t, rfl, ht, h1, h2⟩, rfl⟩
        have H1 : Hid (2 ^ (63 - t) ≤ wvar s 0 m ∧ wvar s 0 m < 2 ^ (64 - t)) := ⟨h1, h2⟩
        have ht' : (t : Int) < 64 := by omega
        clear h1 h2
        gi_wp2
        refine ⟨(KeepsOthers.setCell _ _ _).from _, ⟨t, ⟨rfl, ht, pre, x, rfl, HP.out, by rw [HM.out]; exact H1.out.1, by rw [HM.out]; exact H1.out.2⟩, ?_⟩, hB.setCell (p := ⟨w.heap.size + 1, 0, none⟩) (by simp) _⟩
        have hl : atV (pre ++ [x]) t = .int .i64 (64 * (m : Int) + (t : Int)) := by unfold atV; simp [HM.out]
        rw [hl]
        exact hR.set _
    · have hw1 : Hid ((wf s (8 * m) 8 : Int) = (wvar s 1 m : Int)) := by show _ = _; unfold wvar; rw [if_neg (by decide)]
      have hww : wf s (8 * m) 8 = wvar s 1 m := by have := hw1.out; omega
      rw [hww]
      by_cases hz : wvar s 1 m = 0
      · have hz' : (((wvar s 1 m : Int) : Int) == 0) = true := by rw [hz]; rfl
        gi_wp2
        exact ⟨KeepsFrom.refl _ _, ⟨Below.refl _ _, fun _ h => h⟩, ⟨fun y hy => (List.mem_append.1 hy).elim (HP.out y) (fun e => by simp at e; subst e; rw [HM.out]; exact hz), hA, hR⟩, hB⟩
      · have hz' : (((wvar s 1 m : Int) : Int) == 0) = false := by rw [beq_eq_false_iff_ne]; omega
        gi_wp2
        refine ⟨trivial, (CallsIn.inRound l (callsIn_wide.2 (leadingZeros_any (wvar s 1 m) W hv hz))).mono ?_⟩
        rintro e w' ⟨⟨t, rfl, ht, h1, h2⟩, rfl⟩
        have H1 : Hid (2 ^ (63 - t) ≤ wvar s 1 m ∧ wvar s 1 m < 2 ^ (64 - t)) := ⟨h1, h2⟩
        have ht' : (t : Int) < 64 := by omega
        clear h1 h2
        gi_wp2
        refine ⟨(KeepsOthers.setCell _ _ _).from _, ⟨t, ⟨rfl, ht, pre, x, rfl, HP.out, by rw [HM.out]; exact H1.out.1, by rw [HM.out]; exact H1.out.2⟩, ?_⟩, hB.setCell (p := ⟨w.heap.size + 1, 0, none⟩) (by simp) _⟩
        have hl : atV (pre ++ [x]) t = .int .i64 (64 * (m : Int) + (t : Int)) := by unfold atV; simp [HM.out]
        rw [hl]
        exact hR.set _
  case done =>
    rintro D ys W hD rfl ⟨⟨hne, hA, hR⟩, hB⟩ hK
    rcases hc with rfl | rfl
    · have HFF : Hid (FindR s 0 (8 * (s.size : Int))) := by have h := findR_none (s := s) (c := 0) (.inl rfl) (fun y hy => by have h := hne y (List.mem_range.2 hy); rwa [hfin y (List.mem_range.2 hy)] at h); rw [if_pos rfl] at h; rw [show (8 * (s.size : Int)) = ((8 * s.size : Nat) : Int) by omega]; exact h
      have hca := hA.cell
      have hcr := hR.cell
      have hfr := hR.frozen
      clear hne hfin
      gi_wp2
      have hR' := hR.set (.int .i64 (8 * (s.size : Int)))
      have hK' := (KeepsOthers.setCell W ⟨w.heap.size + 1, 0, none⟩ (.int .i64 (8 * (s.size : Int)))).same D _ hK rfl
      refine ⟨by simp, .inl ⟨_, _, rfl, run_takeDeferred hK', ?_⟩⟩
      have hc5 := (hR'.kept (grownBy_putObj' _ D (.deferred none)) (by simp; omega)).cell
      refine ⟨.int .i64 (8 * (s.size : Int)), ?_, ⟨_, rfl, HFF.out⟩, (hB.setCell (p := ⟨w.heap.size + 1, 0, none⟩) (by simp) _).trans (belowK_b (w := w) (Nat.le_refl _) _ D _ _ (by omega) hK' rfl rfl)⟩
      simp [results, Try.f15, go_sem, hc5]
    · have HFF : Hid (FindR s 1 (-1)) := by have h := findR_none (s := s) (c := 1) (.inr rfl) (fun y hy => by have h := hne y (List.mem_range.2 hy); rwa [hfin y (List.mem_range.2 hy)] at h); rw [if_neg (by decide)] at h; exact h
      have hca := hA.cell
      have hcr := hR.cell
      have hfr := hR.frozen
      clear hne hfin
      gi_wp2
      have hR' := hR.set (.int .i64 (-1))
      have hK' := (KeepsOthers.setCell W ⟨w.heap.size + 1, 0, none⟩ (.int .i64 (-1))).same D _ hK rfl
      refine ⟨by simp, .inl ⟨_, _, rfl, run_takeDeferred hK', ?_⟩⟩
      have hc5 := (hR'.kept (grownBy_putObj' _ D (.deferred none)) (by simp; omega)).cell
      refine ⟨.int .i64 (-1), ?_, ⟨_, rfl, HFF.out⟩, (hB.setCell (p := ⟨w.heap.size + 1, 0, none⟩) (by simp) _).trans (belowK_b (w := w) (Nat.le_refl _) _ D _ _ (by omega) hK' rfl rfl)⟩
      simp [results, Try.f15, go_sem, hc5]
  case stop =>
    rintro D d pre W hD hpre ⟨⟨t, ⟨rfl, ht, p, x, rfl, hne, h1, h2⟩, hR⟩, hB⟩ hK
    obtain ⟨hx, hp⟩ := range_last hpre
    have hx5 := hfin x (List.mem_range.2 hx)
    rw [hx5] at h1 h2
    have HF := findR_word hc hx (fun y hy => by have h := hne y (by rw [hp]; exact List.mem_range.2 hy); rwa [hfin y (List.mem_range.2 (by omega))] at h) ht h1 h2
    have hl : atV (p ++ [x]) t = .int .i64 (64 * (x : Int) + (t : Int)) := by unfold atV; rw [show (p ++ [x]).getLastD 0 = x by simp, hx5]
    rw [hl] at hR
    gi_wp2
    refine ⟨by simp, .inl ⟨_, _, rfl, run_takeDeferred hK, ?_⟩⟩
    have hc5 := (hR.kept (grownBy_putObj' _ D (.deferred none)) (by simp; omega)).cell
    refine ⟨.int .i64 (64 * (x : Int) + (t : Int)), ?_, ⟨_, rfl, HF⟩, hB.trans (belowK_b (w := w) (Nat.le_refl _) W D _ _ (by omega) hK rfl rfl)⟩
    simp [results, Try.f15, go_sem, hc5]
end Go.Proofs.Ytnpkegmkmhambaa
