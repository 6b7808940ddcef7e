/- math/bits.Len64 and LeadingZeros64. -/
import Derived.Test.YtnpkegmkmhambaaWdB
namespace Go.Proofs.Ytnpkegmkmhambaa
open Go.RowKit wd
set_option linter.unusedVariables false

/-- r bits are wanted to write x -/
def LenOf (x r : Nat) : Prop := (x = 0 ∧ r = 0) ∨ (1 ≤ r ∧ 2 ^ (r - 1) ≤ x ∧ x < 2 ^ r)
theorem lenOf_up {x y r : Nat} (d k : Nat) (hd : d = 2 ^ k) (hy : x / d = y) (h : LenOf y r) (hx : d ≤ x) : LenOf x (r + k) := by
  subst hd hy
  have hp : 0 < 2 ^ k := Nat.pow_pos (by decide)
  rcases h with ⟨h, _⟩ | ⟨h1, h2, h3⟩
  · rw [Nat.div_eq_zero_iff] at h; omega
  · refine .inr ⟨by omega, ?_, ?_⟩
    · rw [show r + k - 1 = (r - 1) + k by omega, Nat.pow_add]
      exact (Nat.le_div_iff_mul_le hp).1 h2
    · rw [Nat.pow_add]
      exact (Nat.div_lt_iff_lt_mul hp).1 h3
def tabL : ByteArray := ⟨#[0, 1, 2, 2, 3, 3, 3, 3, 4, 4, 4, 4, 4, 4, 4, 4, 5, 5, 5, 5, 5, 5, 5, 5, 5, 5, 5, 5, 5, 5, 5, 5, 6, 6, 6, 6, 6, 6, 6, 6, 6, 6, 6, 6, 6, 6, 6, 6, 6, 6, 6, 6, 6, 6, 6, 6, 6, 6, 6, 6, 6, 6, 6, 6, 7, 7, 7, 7, 7, 7, 7, 7, 7, 7, 7, 7, 7, 7, 7, 7, 7, 7, 7, 7, 7, 7, 7, 7, 7, 7, 7, 7, 7, 7, 7, 7, 7, 7, 7, 7, 7, 7, 7, 7, 7, 7, 7, 7, 7, 7, 7, 7, 7, 7, 7, 7, 7, 7, 7, 7, 7, 7, 7, 7, 7, 7, 7, 7, 8, 8, 8, 8, 8, 8, 8, 8, 8, 8, 8, 8, 8, 8, 8, 8, 8, 8, 8, 8, 8, 8, 8, 8, 8, 8, 8, 8, 8, 8, 8, 8, 8, 8, 8, 8, 8, 8, 8, 8, 8, 8, 8, 8, 8, 8, 8, 8, 8, 8, 8, 8, 8, 8, 8, 8, 8, 8, 8, 8, 8, 8, 8, 8, 8, 8, 8, 8, 8, 8, 8, 8, 8, 8, 8, 8, 8, 8, 8, 8, 8, 8, 8, 8, 8, 8, 8, 8, 8, 8, 8, 8, 8, 8, 8, 8, 8, 8, 8, 8, 8, 8, 8, 8, 8, 8, 8, 8, 8, 8, 8, 8, 8, 8, 8, 8, 8, 8, 8, 8, 8, 8, 8, 8, 8, 8, 8, 8]⟩
def lenB (x r : Nat) : Bool := (decide (x = 0) && decide (r = 0)) || (decide (1 ≤ r) && decide (2 ^ (r - 1) ≤ x) && decide (x < 2 ^ r))
theorem tab_all : (List.range 256).all (fun x => lenB x (tabL.data[x]?.getD 0).toNat) = true := by decide +kernel
theorem tab_len {x : Nat} (hx : x < 256) (h : x < tabL.size) : LenOf x tabL[x].toNat := by
  have := List.all_eq_true.1 tab_all x (List.mem_range.2 hx)
  have e : tabL.data[x]? = some tabL[x] := Array.getElem?_eq_getElem (show x < tabL.data.size from h)
  rw [e, Option.getD_some] at this
  unfold lenB at this
  simp only [Bool.or_eq_true, Bool.and_eq_true, decide_eq_true_eq] at this
  exact this.imp id (fun h => ⟨h.1.1, h.1.2, h.2⟩)
theorem wrap_twice (c : UInt8) : wrap64 (wrap64 (c.toNat : Int)) = (c.toNat : Int) := by
  have := c.toNat_lt
  unfold wrap64; omega
theorem wrap_n (n : Nat) (hn : n ≤ 64) (c : UInt8) : wrap64 ((n : Int) + wrap64 (c.toNat : Int)) = ((c.toNat + n : Nat) : Int) := by
  have := c.toNat_lt
  unfold wrap64; omega
set_option maxRecDepth 100000 in
set_option maxHeartbeats 4000000 in
theorem len64_any (x : Nat) (w : World) (hx : x < 18446744073709551616) : Calls Try.prog 46 #[.int .u64 (x : Int)] w fun e w' => (∃ r : Nat, e = .returned (.int .i64 (r : Int)) ∧ LenOf x r) ∧ w = w' := by
  by_cases h0 : (4294967296 : Int) ≤ (x : Int)
  · obtain ⟨y, hy⟩ : ∃ y, x / 4294967296 = y := ⟨_, rfl⟩
    have hyI : (x : Int) / 4294967296 = (y : Int) := by omega
    have Hy : Hid (x / 4294967296 = y) := hy
    by_cases h1 : (65536 : Int) ≤ (y : Int)
    · obtain ⟨z, hz⟩ : ∃ z, y / 65536 = z := ⟨_, rfl⟩
      have hzI : (y : Int) / 65536 = (z : Int) := by omega
      have Hz : Hid (y / 65536 = z) := hz
      by_cases h2 : (256 : Int) ≤ (z : Int)
      · obtain ⟨u, hu⟩ : ∃ u, z / 256 = u := ⟨_, rfl⟩
        have huI : (z : Int) / 256 = (u : Int) := by omega
        have Hu : Hid (z / 256 = u) := hu
        have hv : u < 256 := by omega
        have H0 : Hid (4294967296 ≤ x) := (by omega : 4294967296 ≤ x)
        have t0 : decide ((4294967296 : Int) ≤ (x : Int)) = true := decide_eq_true h0
        have H1 : Hid (65536 ≤ y) := (by omega : 65536 ≤ y)
        have t1 : decide ((65536 : Int) ≤ (y : Int)) = true := decide_eq_true h1
        have H2 : Hid (256 ≤ z) := (by omega : 256 ≤ z)
        have t2 : decide ((256 : Int) ≤ (z : Int)) = true := decide_eq_true h2
        clear hx h0 h1 h2 hy hz hu
        go_enter Try.func46, Try.ntmps46
        go_wp2_with fail
        go_ret
        refine ⟨⟨_, wret_i (wrap_n 56 (by decide) _), ?_⟩, rfl⟩
        have hq := tab_len hv (by show u < 256; omega)
        have hq := lenOf_up 256 8 (by decide) Hu.out hq H2.out
        have hq := lenOf_up 65536 16 (by decide) Hz.out hq H1.out
        have hq := lenOf_up 4294967296 32 (by decide) Hy.out hq H0.out
        rw [Nat.add_assoc, Nat.add_assoc] at hq
        exact hq
      · skip
        have hv : z < 256 := by omega
        have H0 : Hid (4294967296 ≤ x) := (by omega : 4294967296 ≤ x)
        have t0 : decide ((4294967296 : Int) ≤ (x : Int)) = true := decide_eq_true h0
        have H1 : Hid (65536 ≤ y) := (by omega : 65536 ≤ y)
        have t1 : decide ((65536 : Int) ≤ (y : Int)) = true := decide_eq_true h1
        have H2 : Hid (z < 256) := (by omega : z < 256)
        have t2 : decide ((256 : Int) ≤ (z : Int)) = false := decide_eq_false h2
        clear hx h0 h1 h2 hy hz
        go_enter Try.func46, Try.ntmps46
        go_wp2_with fail
        go_ret
        refine ⟨⟨_, wret_i (wrap_n 48 (by decide) _), ?_⟩, rfl⟩
        have hq := tab_len hv (by show z < 256; omega)
        have hq := lenOf_up 65536 16 (by decide) Hz.out hq H1.out
        have hq := lenOf_up 4294967296 32 (by decide) Hy.out hq H0.out
        rw [Nat.add_assoc] at hq
        exact hq
    · skip
      by_cases h2 : (256 : Int) ≤ (y : Int)
      · obtain ⟨z, hz⟩ : ∃ z, y / 256 = z := ⟨_, rfl⟩
        have hzI : (y : Int) / 256 = (z : Int) := by omega
        have Hz : Hid (y / 256 = z) := hz
        have hv : z < 256 := by omega
        have H0 : Hid (4294967296 ≤ x) := (by omega : 4294967296 ≤ x)
        have t0 : decide ((4294967296 : Int) ≤ (x : Int)) = true := decide_eq_true h0
        have H1 : Hid (y < 65536) := (by omega : y < 65536)
        have t1 : decide ((65536 : Int) ≤ (y : Int)) = false := decide_eq_false h1
        have H2 : Hid (256 ≤ y) := (by omega : 256 ≤ y)
        have t2 : decide ((256 : Int) ≤ (y : Int)) = true := decide_eq_true h2
        clear hx h0 h1 h2 hy hz
        go_enter Try.func46, Try.ntmps46
        go_wp2_with fail
        go_ret
        refine ⟨⟨_, wret_i (wrap_n 40 (by decide) _), ?_⟩, rfl⟩
        have hq := tab_len hv (by show z < 256; omega)
        have hq := lenOf_up 256 8 (by decide) Hz.out hq H2.out
        have hq := lenOf_up 4294967296 32 (by decide) Hy.out hq H0.out
        rw [Nat.add_assoc] at hq
        exact hq
      · skip
        have hv : y < 256 := by omega
        have H0 : Hid (4294967296 ≤ x) := (by omega : 4294967296 ≤ x)
        have t0 : decide ((4294967296 : Int) ≤ (x : Int)) = true := decide_eq_true h0
        have H1 : Hid (y < 65536) := (by omega : y < 65536)
        have t1 : decide ((65536 : Int) ≤ (y : Int)) = false := decide_eq_false h1
        have H2 : Hid (y < 256) := (by omega : y < 256)
        have t2 : decide ((256 : Int) ≤ (y : Int)) = false := decide_eq_false h2
        clear hx h0 h1 h2 hy
        go_enter Try.func46, Try.ntmps46
        go_wp2_with fail
        go_ret
        refine ⟨⟨_, wret_i (wrap_n 32 (by decide) _), ?_⟩, rfl⟩
        have hq := tab_len hv (by show y < 256; omega)
        have hq := lenOf_up 4294967296 32 (by decide) Hy.out hq H0.out
        exact hq
  · skip
    by_cases h1 : (65536 : Int) ≤ (x : Int)
    · obtain ⟨y, hy⟩ : ∃ y, x / 65536 = y := ⟨_, rfl⟩
      have hyI : (x : Int) / 65536 = (y : Int) := by omega
      have Hy : Hid (x / 65536 = y) := hy
      by_cases h2 : (256 : Int) ≤ (y : Int)
      · obtain ⟨z, hz⟩ : ∃ z, y / 256 = z := ⟨_, rfl⟩
        have hzI : (y : Int) / 256 = (z : Int) := by omega
        have Hz : Hid (y / 256 = z) := hz
        have hv : z < 256 := by omega
        have H0 : Hid (x < 4294967296) := (by omega : x < 4294967296)
        have t0 : decide ((4294967296 : Int) ≤ (x : Int)) = false := decide_eq_false h0
        have H1 : Hid (65536 ≤ x) := (by omega : 65536 ≤ x)
        have t1 : decide ((65536 : Int) ≤ (x : Int)) = true := decide_eq_true h1
        have H2 : Hid (256 ≤ y) := (by omega : 256 ≤ y)
        have t2 : decide ((256 : Int) ≤ (y : Int)) = true := decide_eq_true h2
        clear hx h0 h1 h2 hy hz
        go_enter Try.func46, Try.ntmps46
        go_wp2_with fail
        go_ret
        refine ⟨⟨_, wret_i (wrap_n 24 (by decide) _), ?_⟩, rfl⟩
        have hq := tab_len hv (by show z < 256; omega)
        have hq := lenOf_up 256 8 (by decide) Hz.out hq H2.out
        have hq := lenOf_up 65536 16 (by decide) Hy.out hq H1.out
        rw [Nat.add_assoc] at hq
        exact hq
      · skip
        have hv : y < 256 := by omega
        have H0 : Hid (x < 4294967296) := (by omega : x < 4294967296)
        have t0 : decide ((4294967296 : Int) ≤ (x : Int)) = false := decide_eq_false h0
        have H1 : Hid (65536 ≤ x) := (by omega : 65536 ≤ x)
        have t1 : decide ((65536 : Int) ≤ (x : Int)) = true := decide_eq_true h1
        have H2 : Hid (y < 256) := (by omega : y < 256)
        have t2 : decide ((256 : Int) ≤ (y : Int)) = false := decide_eq_false h2
        clear hx h0 h1 h2 hy
        go_enter Try.func46, Try.ntmps46
        go_wp2_with fail
        go_ret
        refine ⟨⟨_, wret_i (wrap_n 16 (by decide) _), ?_⟩, rfl⟩
        have hq := tab_len hv (by show y < 256; omega)
        have hq := lenOf_up 65536 16 (by decide) Hy.out hq H1.out
        exact hq
    · skip
      by_cases h2 : (256 : Int) ≤ (x : Int)
      · obtain ⟨y, hy⟩ : ∃ y, x / 256 = y := ⟨_, rfl⟩
        have hyI : (x : Int) / 256 = (y : Int) := by omega
        have Hy : Hid (x / 256 = y) := hy
        have hv : y < 256 := by omega
        have H0 : Hid (x < 4294967296) := (by omega : x < 4294967296)
        have t0 : decide ((4294967296 : Int) ≤ (x : Int)) = false := decide_eq_false h0
        have H1 : Hid (x < 65536) := (by omega : x < 65536)
        have t1 : decide ((65536 : Int) ≤ (x : Int)) = false := decide_eq_false h1
        have H2 : Hid (256 ≤ x) := (by omega : 256 ≤ x)
        have t2 : decide ((256 : Int) ≤ (x : Int)) = true := decide_eq_true h2
        clear hx h0 h1 h2 hy
        go_enter Try.func46, Try.ntmps46
        go_wp2_with fail
        go_ret
        refine ⟨⟨_, wret_i (wrap_n 8 (by decide) _), ?_⟩, rfl⟩
        have hq := tab_len hv (by show y < 256; omega)
        have hq := lenOf_up 256 8 (by decide) Hy.out hq H2.out
        exact hq
      · skip
        have hv : x < 256 := by omega
        have H0 : Hid (x < 4294967296) := (by omega : x < 4294967296)
        have t0 : decide ((4294967296 : Int) ≤ (x : Int)) = false := decide_eq_false h0
        have H1 : Hid (x < 65536) := (by omega : x < 65536)
        have t1 : decide ((65536 : Int) ≤ (x : Int)) = false := decide_eq_false h1
        have H2 : Hid (x < 256) := (by omega : x < 256)
        have t2 : decide ((256 : Int) ≤ (x : Int)) = false := decide_eq_false h2
        clear hx h0 h1 h2
        go_enter Try.func46, Try.ntmps46
        go_wp2_with fail
        go_ret
        exact ⟨⟨_, wret_i (wrap_twice _), tab_len hv (by show x < 256; omega)⟩, rfl⟩
theorem leadingZeros_any (x : Nat) (w : World) (hx : x < 18446744073709551616) (h0 : x ≠ 0) : Calls Try.prog 37 #[.int .u64 (x : Int)] w fun e w' => (∃ t : Nat, e = .returned (.int .i64 (t : Int)) ∧ t < 64 ∧ 2 ^ (63 - t) ≤ x ∧ x < 2 ^ (64 - t)) ∧ w = w' := by
  go_enter Try.func37, Try.ntmps37
  go_wp2_with fail
  refine (len64_any x _ hx).mono ?_
  rintro e w' ⟨⟨r, rfl, hr⟩, rfl⟩
  have hr2 : 1 ≤ r ∧ 2 ^ (r - 1) ≤ x ∧ x < 2 ^ r := hr.resolve_left (fun h => h0 h.1)
  obtain ⟨h1, h2, h3⟩ := hr2
  have hr64 : r ≤ 64 := by
    by_cases h : r ≤ 64
    · exact h
    · have := Nat.pow_le_pow_right (n := 2) (by decide) (show 64 ≤ r - 1 by omega)
      have h64 : (2 : Nat) ^ 64 = 18446744073709551616 := by decide
      omega
  have HR : Hid (1 ≤ r ∧ 2 ^ (r - 1) ≤ x ∧ x < 2 ^ r) := ⟨h1, h2, h3⟩
  clear h2 h3 hr
  go_wp2_with fail
  go_ret
  refine ⟨⟨64 - r, wret_i (by omega), by omega, ?_, ?_⟩, rfl⟩
  · rw [show 63 - (64 - r) = r - 1 by omega]; exact HR.out.2.1
  · rw [show 64 - (64 - r) = r by omega]; exact HR.out.2.2
end Go.Proofs.Ytnpkegmkmhambaa
