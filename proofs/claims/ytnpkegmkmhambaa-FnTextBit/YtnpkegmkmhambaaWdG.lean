/- math/bits.OnesCount64: how many bits of eight bytes are 1. -/
import Derived.Test.YtnpkegmkmhambaaWdB
namespace Go.Proofs.Ytnpkegmkmhambaa
open Go.RowKit wd
set_option linter.unusedVariables false

/-- bytes as one number, the first the least -/
def cat : List Nat → Nat
  | [] => 0
  | b :: bs => b + 256 * cat bs
def pc (b : Nat) : Nat := b / 128 % 2 + b / 64 % 2 + b / 32 % 2 + b / 16 % 2 + b / 8 % 2 + b / 4 % 2 + b / 2 % 2 + b % 2
def f1 (b : Nat) : Nat := (b / 2 &&& 85) + (b &&& 85)
def f2 (b : Nat) : Nat := (b / 4 &&& 51) + (b &&& 51)
def f3 (b : Nat) : Nat := (b / 16 + b) % 16
theorem and_cat (X x M m : Nat) (hx : x < 256) (hm : m < 256) : (x + 256 * X) &&& (m + 256 * M) = (x &&& m) + 256 * (X &&& M) := by
  have h1 : ((x + 256 * X) &&& (m + 256 * M)) / 2 ^ 8 = X &&& M := by
    rw [Nat.and_div_two_pow, show (x + 256 * X) / 2 ^ 8 = X by omega, show (m + 256 * M) / 2 ^ 8 = M by omega]
  have h2 : ((x + 256 * X) &&& (m + 256 * M)) % 2 ^ 8 = x &&& m := by
    rw [Nat.and_mod_two_pow, show (x + 256 * X) % 2 ^ 8 = x by omega, show (m + 256 * M) % 2 ^ 8 = m by omega]
  omega
theorem and_low (j c y m : Nat) (hm : m < 2 ^ j) (hy : y < 2 ^ j) : (2 ^ j * c + y) &&& m = y &&& m := by
  have hle : (2 ^ j * c + y) &&& m ≤ m := Nat.and_le_right
  rw [← Nat.mod_eq_of_lt (Nat.lt_of_le_of_lt hle hm), Nat.and_mod_two_pow, Nat.mul_add_mod, Nat.mod_eq_of_lt hy, Nat.mod_eq_of_lt hm]
theorem s1_cat : ∀ bs : List Nat, (∀ b ∈ bs, b < 256) → (cat bs / 2 &&& cat (bs.map fun _ => 85)) + (cat bs &&& cat (bs.map fun _ => 85)) = cat (bs.map f1)
  | [], _ => by simp [cat]
  | b :: bs, h => by
    have ih := s1_cat bs (fun x hx => h x (List.mem_cons_of_mem _ hx))
    have hb := h b (List.mem_cons_self ..)
    simp only [cat, List.map_cons]
    generalize cat bs = X at *
    generalize cat (bs.map fun _ => 85) = M at *
    have e : (b + 256 * X) / 2 = (2 ^ 7 * (X % 2) + b / 2) + 256 * (X / 2) := by omega
    rw [e, and_cat _ _ _ _ (by omega) (by decide), and_cat _ _ _ _ hb (by decide), and_low 7 _ _ _ (by decide) (by omega)]
    rw [← ih, show f1 b = (b / 2 &&& 85) + (b &&& 85) from rfl]; omega
theorem s2_cat : ∀ bs : List Nat, (∀ b ∈ bs, b < 256) → (cat bs / 4 &&& cat (bs.map fun _ => 51)) + (cat bs &&& cat (bs.map fun _ => 51)) = cat (bs.map f2)
  | [], _ => by simp [cat]
  | b :: bs, h => by
    have ih := s2_cat bs (fun x hx => h x (List.mem_cons_of_mem _ hx))
    have hb := h b (List.mem_cons_self ..)
    simp only [cat, List.map_cons]
    generalize cat bs = X at *
    generalize cat (bs.map fun _ => 51) = M at *
    have e : (b + 256 * X) / 4 = (2 ^ 6 * (X % 4) + b / 4) + 256 * (X / 4) := by omega
    rw [e, and_cat _ _ _ _ (by omega) (by decide), and_cat _ _ _ _ hb (by decide), and_low 6 _ _ _ (by decide) (by omega)]
    rw [← ih, show f2 b = (b / 4 &&& 51) + (b &&& 51) from rfl]; omega
def nib (b : Nat) : Prop := b / 16 ≤ 4 ∧ b % 16 ≤ 4
theorem cat_mod : ∀ bs : List Nat, (∀ b ∈ bs, nib b) → cat bs % 16 ≤ 4
  | [], _ => by simp [cat]
  | b :: bs, h => by
    have hb := (h b (List.mem_cons_self ..)).2
    simp only [cat]; omega
theorem s3_cat : ∀ bs : List Nat, (∀ b ∈ bs, nib b) → (cat bs / 16 + cat bs) &&& cat (bs.map fun _ => 15) = cat (bs.map f3)
  | [], _ => by simp [cat]
  | b :: bs, h => by
    have ih := s3_cat bs (fun x hx => h x (List.mem_cons_of_mem _ hx))
    have hm := cat_mod bs (fun x hx => h x (List.mem_cons_of_mem _ hx))
    obtain ⟨h1, h2⟩ := h b (List.mem_cons_self ..)
    simp only [cat, List.map_cons]
    generalize cat bs = X at *
    generalize cat (bs.map fun _ => 15) = M at *
    have e : (b + 256 * X) / 16 + (b + 256 * X) = (16 * (X % 16) + b / 16 + b) + 256 * (X / 16 + X) := by omega
    rw [e, and_cat _ _ _ _ (by omega) (by decide), ih]
    have e2 : (16 * (X % 16) + b / 16 + b) &&& 15 = (16 * (X % 16) + b / 16 + b) % 16 := Nat.and_two_pow_sub_one_eq_mod _ 4
    rw [e2]
    unfold f3
    omega
theorem byte_all : (List.range 256).all (fun b => decide (f1 b < 256) && decide (f2 (f1 b) / 16 ≤ 4) && decide (f2 (f1 b) % 16 ≤ 4) && decide (f3 (f2 (f1 b)) = pc b) && decide (pc b ≤ 8)) = true := by decide +kernel
theorem byte_facts {b : Nat} (h : b < 256) : f1 b < 256 ∧ nib (f2 (f1 b)) ∧ f3 (f2 (f1 b)) = pc b ∧ pc b ≤ 8 := by
  have := List.all_eq_true.1 byte_all b (List.mem_range.2 h)
  simp only [Bool.and_eq_true, decide_eq_true_eq] at this
  exact ⟨this.1.1.1.1, ⟨this.1.1.1.2, this.1.1.2⟩, this.1.2, this.2⟩
theorem cat_lt : ∀ bs : List Nat, (∀ b ∈ bs, b < 256) → cat bs < 256 ^ bs.length
  | [], _ => by simp [cat]
  | b :: bs, h => by
    have ih := cat_lt bs (fun x hx => h x (List.mem_cons_of_mem _ hx))
    have hb := h b (List.mem_cons_self ..)
    simp only [cat, List.length_cons, Nat.pow_succ]; omega
theorem cat_shift {b : Nat} (hb : b < 256) (bs : List Nat) : cat (b :: bs) / 256 = cat bs := by simp only [cat]; omega
theorem cat_shift2 {a b : Nat} (ha : a < 256) (hb : b < 256) (bs : List Nat) : cat (a :: b :: bs) / 65536 = cat bs := by
  rw [show (65536 : Nat) = 256 * 256 by decide, ← Nat.div_div_eq_div_mul, cat_shift ha, cat_shift hb]
theorem cat_shift4 {a b c d : Nat} (ha : a < 256) (hb : b < 256) (hc : c < 256) (hd : d < 256) (bs : List Nat) : cat (a :: b :: c :: d :: bs) / 4294967296 = cat bs := by
  rw [show (4294967296 : Nat) = 65536 * 65536 by decide, ← Nat.div_div_eq_div_mul, cat_shift2 ha hb, cat_shift2 hc hd]
theorem cat_fold (c0 c1 c2 c3 c4 c5 c6 c7 x3 x4 x5 x6 : Nat) (h0 : c0 ≤ 8) (h1 : c1 ≤ 8) (h2 : c2 ≤ 8) (h3 : c3 ≤ 8) (h4 : c4 ≤ 8) (h5 : c5 ≤ 8) (h6 : c6 ≤ 8) (h7 : c7 ≤ 8)
    (e3 : x3 = cat [c0, c1, c2, c3, c4, c5, c6, c7]) (e4 : x4 = x3 + x3 / 256) (e5 : x5 = x4 + x4 / 65536) (e6 : x6 = x5 + x5 / 4294967296) :
    x6 < 9223372036854775808 ∧ x6 % 128 = c0 + c1 + c2 + c3 + c4 + c5 + c6 + c7 := by
  have g4 : x4 = cat [c0 + c1, c1 + c2, c2 + c3, c3 + c4, c4 + c5, c5 + c6, c6 + c7, c7] := by
    rw [e4, e3, cat_shift (by omega)]; simp only [cat]; omega
  have g5 : x5 = cat [c0 + c1 + (c2 + c3), c1 + c2 + (c3 + c4), c2 + c3 + (c4 + c5), c3 + c4 + (c5 + c6), c4 + c5 + (c6 + c7), c5 + c6 + c7, c6 + c7, c7] := by
    rw [e5, g4, cat_shift2 (by omega) (by omega)]; simp only [cat]; omega
  have g6 : x6 = cat [c0 + c1 + (c2 + c3) + (c4 + c5 + (c6 + c7)), c1 + c2 + (c3 + c4) + (c5 + c6 + c7), c2 + c3 + (c4 + c5) + (c6 + c7), c3 + c4 + (c5 + c6) + c7, c4 + c5 + (c6 + c7), c5 + c6 + c7, c6 + c7, c7] := by
    rw [e6, g5, cat_shift4 (by omega) (by omega) (by omega) (by omega)]; simp only [cat]; omega
  constructor
  · rw [g6]; simp only [cat]; omega
  · rw [g6, show ∀ (b : Nat) (bs : List Nat), cat (b :: bs) = b + 256 * cat bs from fun _ _ => rfl]
    generalize cat [_, _, _, _, _, _, _] = X
    omega
theorem cat_le : ∀ bs : List Nat, (∀ b ∈ bs, nib b) → 255 * cat bs + 68 ≤ 68 * 256 ^ bs.length
  | [], _ => by simp [cat]
  | b :: bs, h => by
    have ih := cat_le bs (fun x hx => h x (List.mem_cons_of_mem _ hx))
    have hb := h b (List.mem_cons_self ..)
    unfold nib at hb
    simp only [cat, List.length_cons, Nat.pow_succ]; omega
/-- the eight steps -/
theorem ones_steps (b0 b1 b2 b3 b4 b5 b6 b7 : Nat) (h : ∀ b ∈ [b0, b1, b2, b3, b4, b5, b6, b7], b < 256) : ∃ x1 x2 x3 x4 x5 x6 : Nat,
    (cat [b0, b1, b2, b3, b4, b5, b6, b7] / 2 &&& 6148914691236517205) + (cat [b0, b1, b2, b3, b4, b5, b6, b7] &&& 6148914691236517205) = x1 ∧ x1 < 18446744073709551616 ∧
    (x1 / 4 &&& 3689348814741910323) + (x1 &&& 3689348814741910323) = x2 ∧ x2 < 18446744073709551616 ∧ x2 / 16 + x2 < 18446744073709551616 ∧
    (x2 / 16 + x2) &&& 1085102592571150095 = x3 ∧ x3 + x3 / 256 = x4 ∧ x4 + x4 / 65536 = x5 ∧ x5 + x5 / 4294967296 = x6 ∧ x6 < 9223372036854775808 ∧
    x6 % 128 = pc b0 + pc b1 + pc b2 + pc b3 + pc b4 + pc b5 + pc b6 + pc b7 := by
  have e1 := s1_cat _ h
  have h1 : ∀ b ∈ [b0, b1, b2, b3, b4, b5, b6, b7].map f1, b < 256 := by
    intro b hb
    obtain ⟨c, hc, rfl⟩ := List.mem_map.1 hb
    exact (byte_facts (h c hc)).1
  have e2 := s2_cat _ h1
  have h2 : ∀ b ∈ ([b0, b1, b2, b3, b4, b5, b6, b7].map f1).map f2, nib b := by
    intro b hb
    obtain ⟨c, hc, rfl⟩ := List.mem_map.1 hb
    obtain ⟨d, hd, rfl⟩ := List.mem_map.1 hc
    exact (byte_facts (h d hd)).2.1
  have e3 := s3_cat _ h2
  have l1 := cat_lt _ h1
  have l2 := cat_lt (([b0, b1, b2, b3, b4, b5, b6, b7].map f1).map f2) (fun b hb => by have := h2 b hb; unfold nib at this; omega)
  have p := fun (b : Nat) (hb : b ∈ [b0, b1, b2, b3, b4, b5, b6, b7]) => (byte_facts (h b hb)).2.2
  have m3 : ((([b0, b1, b2, b3, b4, b5, b6, b7].map f1).map f2).map f3) = [pc b0, pc b1, pc b2, pc b3, pc b4, pc b5, pc b6, pc b7] := by
    simp only [List.map_cons, List.map_nil, (p b0 (by simp)).1, (p b1 (by simp)).1, (p b2 (by simp)).1, (p b3 (by simp)).1, (p b4 (by simp)).1, (p b5 (by simp)).1, (p b6 (by simp)).1, (p b7 (by simp)).1]
  rw [m3] at e3
  have q0 := (p b0 (by simp)).2
  have q1 := (p b1 (by simp)).2
  have q2 := (p b2 (by simp)).2
  have q3 := (p b3 (by simp)).2
  have q4 := (p b4 (by simp)).2
  have q5 := (p b5 (by simp)).2
  have q6 := (p b6 (by simp)).2
  have q7 := (p b7 (by simp)).2
  have top : cat (([b0, b1, b2, b3, b4, b5, b6, b7].map f1).map f2) ≤ 4919131752989213764 := by
    have := cat_le _ h2
    have hlen : (([b0, b1, b2, b3, b4, b5, b6, b7].map f1).map f2).length = 8 := by rw [List.length_map, List.length_map]; rfl
    have e : (256 : Nat) ^ 8 = 18446744073709551616 := by decide
    rw [hlen, e] at this
    omega
  have hf := cat_fold _ _ _ _ _ _ _ _ _ _ _ _ q0 q1 q2 q3 q4 q5 q6 q7 rfl rfl rfl rfl
  have l3 : cat (([b0, b1, b2, b3, b4, b5, b6, b7].map f1).map f2) / 16 + cat (([b0, b1, b2, b3, b4, b5, b6, b7].map f1).map f2) < 18446744073709551616 := by
    generalize cat (([b0, b1, b2, b3, b4, b5, b6, b7].map f1).map f2) = X at *
    omega
  have k1 : cat ([b0, b1, b2, b3, b4, b5, b6, b7].map fun _ => 85) = 6148914691236517205 := by simp only [List.map_cons, List.map_nil, cat, Nat.reduceMul, Nat.reduceAdd]
  have k2 : cat (([b0, b1, b2, b3, b4, b5, b6, b7].map f1).map fun _ => 51) = 3689348814741910323 := by simp only [List.map_cons, List.map_nil, cat, Nat.reduceMul, Nat.reduceAdd]
  have k3 : cat ((([b0, b1, b2, b3, b4, b5, b6, b7].map f1).map f2).map fun _ => 15) = 1085102592571150095 := by simp only [List.map_cons, List.map_nil, cat, Nat.reduceMul, Nat.reduceAdd]
  have p8 : (256 : Nat) ^ 8 = 18446744073709551616 := by decide
  rw [show ([b0, b1, b2, b3, b4, b5, b6, b7].map f1).length = 8 by rw [List.length_map]; rfl, p8] at l1
  rw [show (([b0, b1, b2, b3, b4, b5, b6, b7].map f1).map f2).length = 8 by rw [List.length_map, List.length_map]; rfl, p8] at l2
  rw [k1] at e1
  rw [k2] at e2
  rw [k3] at e3
  exact ⟨_, _, _, _, _, _, e1, l1, e2, l2, l3, e3, rfl, rfl, rfl, hf.1, hf.2⟩
theorem wf_bytes (s : ByteArray) (k : Nat) : wf s k 8 = cat [byt s (k + 7), byt s (k + 6), byt s (k + 5), byt s (k + 4), byt s (k + 3), byt s (k + 2), byt s (k + 1), byt s k] := by
  simp only [wf, cat, Nat.add_zero]; omega
/-- ones of n bytes from a on -/
def pcs (s : ByteArray) (a : Nat) : Nat → Nat
  | 0 => 0
  | n + 1 => pcs s a n + pc (byt s (a + n))
set_option maxRecDepth 100000 in
set_option maxHeartbeats 4000000 in
theorem ones_any (s : ByteArray) (k : Nat) (w : World) : Calls Try.prog 29 #[.int .u64 (wf s k 8 : Int)] w fun e w' => e = .returned (.int .i64 (pcs s k 8 : Int)) ∧ w = w' := by
  have hx : wf s k 8 < 18446744073709551616 := by
    have h := wf_lt s k 8
    have h8 : (256 : Nat) ^ 8 = 18446744073709551616 := by decide
    omega
  obtain ⟨x1, x2, x3, x4, x5, x6, e1, l1, e2, l2, l3, e3, e4, e5, e6, l6, hr⟩ := ones_steps (byt s (k + 7)) (byt s (k + 6)) (byt s (k + 5)) (byt s (k + 4)) (byt s (k + 3)) (byt s (k + 2)) (byt s (k + 1)) (byt s k) (by
    intro b hb
    simp only [List.mem_cons, List.not_mem_nil, or_false] at hb
    rcases hb with rfl | rfl | rfl | rfl | rfl | rfl | rfl | rfl <;> exact byt_lt _ _)
  rw [← wf_bytes] at e1
  have HR : Hid ((x6 : Int) % 128 = (pcs s k 8 : Int)) := by
    show _ = _
    rw [show (x6 : Int) % 128 = ((x6 % 128 : Nat) : Int) by omega, hr]
    simp only [pcs, Nat.add_zero]
    omega
  clear hr
  generalize wf s k 8 = x at *
  have b1 : x1 &&& 3689348814741910323 ≤ 3689348814741910323 := Nat.and_le_right
  have a1 : bits .and .u64 ((x : Int) / 2) 6148914691236517205 = ((x / 2 &&& 6148914691236517205 : Nat) : Int) := by
    rw [show ((x : Int) / 2) = ((x / 2 : Nat) : Int) by omega]; exact u64_and_nat _ _ (by omega) (by decide)
  have a2 : bits .and .u64 (x : Int) 6148914691236517205 = ((x &&& 6148914691236517205 : Nat) : Int) := u64_and_nat _ _ hx (by decide)
  have a3 : IntKind.u64.wrap (((x / 2 &&& 6148914691236517205 : Nat) : Int) + ((x &&& 6148914691236517205 : Nat) : Int)) = (x1 : Int) := by
    rw [show (((x / 2 &&& 6148914691236517205 : Nat) : Int) + ((x &&& 6148914691236517205 : Nat) : Int)) = ((x / 2 &&& 6148914691236517205) + (x &&& 6148914691236517205) : Nat) by omega, e1]; exact wrap_u64 l1
  have a4 : bits .and .u64 ((x1 : Int) / 4) 3689348814741910323 = ((x1 / 4 &&& 3689348814741910323 : Nat) : Int) := by
    rw [show ((x1 : Int) / 4) = ((x1 / 4 : Nat) : Int) by omega]; exact u64_and_nat _ _ (by omega) (by decide)
  have a5 : bits .and .u64 (x1 : Int) 3689348814741910323 = ((x1 &&& 3689348814741910323 : Nat) : Int) := u64_and_nat _ _ l1 (by decide)
  have a6 : IntKind.u64.wrap (((x1 / 4 &&& 3689348814741910323 : Nat) : Int) + ((x1 &&& 3689348814741910323 : Nat) : Int)) = (x2 : Int) := by
    rw [show (((x1 / 4 &&& 3689348814741910323 : Nat) : Int) + ((x1 &&& 3689348814741910323 : Nat) : Int)) = ((x1 / 4 &&& 3689348814741910323) + (x1 &&& 3689348814741910323) : Nat) by omega, e2]; exact wrap_u64 l2
  have a7 : IntKind.u64.wrap ((x2 : Int) / 16 + (x2 : Int)) = (x2 : Int) / 16 + (x2 : Int) := by
    rw [show ((x2 : Int) / 16 + (x2 : Int)) = ((x2 / 16 + x2 : Nat) : Int) by omega]; exact wrap_u64 l3
  have a8 : bits .and .u64 ((x2 : Int) / 16 + (x2 : Int)) 1085102592571150095 = (x3 : Int) := by
    rw [show ((x2 : Int) / 16 + (x2 : Int)) = ((x2 / 16 + x2 : Nat) : Int) by omega, ← e3]; exact u64_and_nat _ _ l3 (by decide)
  have a9 : IntKind.u64.wrap ((x3 : Int) + (x3 : Int) / 256) = (x4 : Int) := by
    rw [show ((x3 : Int) + (x3 : Int) / 256) = ((x3 + x3 / 256 : Nat) : Int) by omega, e4]; exact wrap_u64 (by omega)
  have a10 : IntKind.u64.wrap ((x4 : Int) + (x4 : Int) / 65536) = (x5 : Int) := by
    rw [show ((x4 : Int) + (x4 : Int) / 65536) = ((x4 + x4 / 65536 : Nat) : Int) by omega, e5]; exact wrap_u64 (by omega)
  have a11 : IntKind.u64.wrap ((x5 : Int) + (x5 : Int) / 4294967296) = (x6 : Int) := by
    rw [show ((x5 : Int) + (x5 : Int) / 4294967296) = ((x5 + x5 / 4294967296 : Nat) : Int) by omega, e6]; exact wrap_u64 (by omega)
  have a12 : bits .and .i64 (wrap64 (x6 : Int)) 127 = (x6 : Int) % 128 := by
    rw [i64_and127, show wrap64 (x6 : Int) = (x6 : Int) by unfold wrap64; omega]
  clear e1 e2 e3 e4 e5 e6 l1 l2 l3 l6 b1 hx
  go_enter Try.func29, Try.ntmps29
  go_wp2_with fail
  go_ret
  exact ⟨wret_i HR.out, rfl⟩
end Go.Proofs.Ytnpkegmkmhambaa
