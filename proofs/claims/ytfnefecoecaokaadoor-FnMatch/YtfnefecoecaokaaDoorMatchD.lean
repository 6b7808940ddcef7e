/- A pattern and a text are drawn; plain facts on what matches. -/
import Derived.Test.YtfnefecoecaokaaDoorMatchI
import Derived.Test.YtfnefecoecaokaaDoorRx
namespace Go.Proofs.YtfnefecoecaokaaDoor
open Go.RowKit

theorem mtch_self : ∀ s, mtch s s = true
  | [] => rfl
  | c :: s => by
    by_cases h : c = 42
    · subst h; rw [mtch_star_iff]; exact ⟨1, by simp, by simpa using mtch_self s⟩
    · rw [mtch_one h, mtch_self s]; simp
theorem mtch_all (s : List UInt8) : mtch [42] s = true := by
  rw [mtch_star_iff]; exact ⟨s.length, Nat.le_refl _, by rw [List.drop_length]; rfl⟩
theorem mtch_more {p s : List UInt8} (h : mtch p s = true) : mtch (42 :: p) s = true := by
  rw [mtch_star_iff]; exact ⟨0, Nat.zero_le _, by simpa using h⟩
theorem mtch_more1 {p s : List UInt8} (x : UInt8) (h : mtch p s = true) : mtch (42 :: p) (x :: s) = true := by
  rw [mtch_star_iff]; exact ⟨1, by simp, by simpa using h⟩
theorem mtch_behind (x : UInt8) : ∀ (p s : List UInt8), mtch p s = true → mtch (p ++ [42]) (s ++ [x]) = true
  | [], s, h => by
    have : s = [] := by simpa [mtch] using h
    subst this; exact mtch_all _
  | c :: p, s, h => by
    rw [List.cons_append]
    by_cases hc : c = 42
    · subst hc
      rw [mtch_star_iff] at h ⊢
      obtain ⟨k, hk, hm⟩ := h
      exact ⟨k, by simp; omega, by rw [List.drop_append_of_le_length hk]; exact mtch_behind x p _ hm⟩
    · cases s with
      | nil => rw [mtch_none hc] at h; cases h
      | cons y s =>
        rw [mtch_one hc, Bool.and_eq_true] at h
        rw [List.cons_append, mtch_one hc, h.1, mtch_behind x p s h.2]; rfl
theorem app_data (a b : ByteArray) : (a ++ b).data.toList = a.data.toList ++ b.data.toList := by simp
theorem implM_is (P T : ByteArray) (R : Bool) (w : World) (h : mtch P.data.toList T.data.toList = R) (hP : P.size ≤ 9223372036854775806) (hT : T.size ≤ 9223372036854775806) :
    Calls Tryd.prog 24 #[.string P, .string T] w fun e w' => e = .returned (.bool R) ∧ ∃ m, w' = w.drewN m :=
  (implM_any P T w hP hT).mono fun e w' ⟨h1, h2⟩ => ⟨by rw [h1, h], h2⟩
theorem specM_is (P T : ByteArray) (R : Bool) (w : World) (h : mtch P.data.toList T.data.toList = R) (hP : P.size ≤ 9223372036854775806) (hT : T.size ≤ 9223372036854775806) :
    Calls Tryd.prog 25 #[.string P, .string T] w fun e w' => e = .returned (.bool R) ∧ ∃ m, w' = w.drewN m :=
  (specM_any _ P T w (Nat.le_refl _) (by omega) (by omega)).mono fun e w' ⟨h1, h2⟩ => ⟨by rw [h1, h], h2⟩

def pats : List ByteArray := [⟨#[42]⟩, ⟨#[63]⟩, ⟨#[97]⟩, ⟨#[98]⟩]
def bits4 : List ByteArray := [⟨#[97]⟩, ⟨#[98]⟩, ⟨#[97, 98]⟩, ⟨#[]⟩]
theorem pats_short : ∀ s ∈ pats, s.size ≤ 2 := by
  intro s hs; simp only [pats, List.mem_cons, List.not_mem_nil, or_false] at hs
  rcases hs with h | h | h | h <;> subst h <;> decide
theorem bits4_short : ∀ s ∈ bits4, s.size ≤ 2 := by
  intro s hs; simp only [bits4, List.mem_cons, List.not_mem_nil, or_false] at hs
  rcases hs with h | h | h | h <;> subst h <;> decide
/-- one of four texts that are laid out on the spot -/
theorem of_four (r p : Nat) (v : Value) (zs : List Int) (l : List ByteArray) (w : World) (h : RdAt w r v zs p) (hp : p ≤ 90000) (hl : l.length = 4) :
    Calls Tryd.prog 51 #[.pointer (some ⟨r, 0, none⟩), .slice (some ⟨w.heap.size, 0, none⟩) 4 4] (w.alloc (.cells (l.map Value.string).toArray 9)) fun e w' => ∃ s, e = .returned (.string s) ∧ s ∈ l ∧ RdAt w' r v zs (p + 1) ∧ w.grownBy w' (some r) := by
  have hB := (Below.refl w.heap.size w).alloc (Nat.le_refl _) (.cells (l.map Value.string).toArray 9)
  have ho : Owns (w.alloc (.cells (l.map Value.string).toArray 9)) w.heap.size (.slice (some ⟨w.heap.size, 0, none⟩) 4 4) l := by
    have := World.ownsRow_lit w (base := w.heap.size) (e := 9) (size := 1) (l.map Value.string).toArray 4 (Nat.le_refl _) (by decide) (by simp [hl])
    unfold Owns; rw [hl]; simpa using this
  refine (of_any r p v zs _ l w.heap.size _ (rd_grown h hB) (by omega) ho (rd_lt h) (by omega) (by omega)).mono ?_
  rintro e w2 ⟨s, rfl, hmem, hR2, hg2⟩
  exact ⟨s, rfl, hmem, hR2, grown_trans2 (World.grownBy_alloc w _ (some r)) hg2⟩
set_option maxHeartbeats 2000000 in
theorem drawM_any (v : Value) (zs : List Int) (w : World) (h : IsBytes w v zs) :
    Calls Tryd.prog 23 #[v] w fun e w' => ∃ P S : ByteArray, e = .returned (.tuple #[.string P, .string S]) ∧ P.size ≤ 10 ∧ S.size ≤ 10 ∧ Below w.heap.size w w' := by
  go_enter Tryd.func23, Tryd.ntmps23
  go_wp2_with fail
  refine (open_any v zs _ h).mono ?_
  rintro e w1 ⟨rfl, ⟨v1, zs1, hR1⟩, _, hB1⟩
  go_wp2_with fail
  refine (pick_any _ _ v1 zs1 6 _ hR1 (by omega) (by omega) (by omega)).mono ?_
  rintro e w2 ⟨x, rfl, hx0, hx1, hR2, hg2⟩
  obtain ⟨n, rfl⟩ := Int.eq_ofNat_of_zero_le hx0
  go_wp2_with fail
  go_loopw [5, 6, 7] (fun a b i wr => ∃ (P S : ByteArray) (k q : Nat), a = .string P ∧ b = .string S ∧ i = .int .i64 (k : Int) ∧ k ≤ 5 ∧ P.size + 2 * k ≤ 10 ∧ S.size + 2 * k ≤ 10 ∧ q + 2 * k ≤ 11 ∧ RdAt wr w.heap.size v1 zs1 q ∧ w1.grownBy wr (some w.heap.size)) (fun _ _ i _ => (intOf i).toNat)
  case atStart => exact ⟨ByteArray.empty, ByteArray.empty, n, 1, rfl, rfl, rfl, by omega, by rw [ByteArray.size_empty]; omega, by rw [ByteArray.size_empty]; omega, by omega, hR2, hg2⟩
  case round =>
    obtain ⟨P, S, k, q, rfl, rfl, rfl, hk5, hP, hS, hq, hR, hG⟩ := hrel
    clear hR1 hR2 hg2
    by_cases h0 : 0 < k
    · obtain ⟨j, rfl⟩ : ∃ j, k = j + 1 := ⟨k - 1, by omega⟩
      go_wp2_with fail
      refine (of_four _ q v1 zs1 pats _ hR (by omega) rfl).mono ?_
      rintro e w3 ⟨s, rfl, hm, hR3, hg3⟩
      have hs := pats_short s hm
      have hG3 := grown_trans2 hG hg3
      clear hm hg3 hR hG
      go_wp2_with fail
      refine (of_four _ _ v1 zs1 bits4 _ hR3 (by omega) rfl).mono ?_
      rintro e w4 ⟨t, rfl, hm, hR4, hg4⟩
      have ht := bits4_short t hm
      have hG4 := grown_trans2 hG3 hg4
      clear hm hg4 hR3 hG3
      go_wp2_with fail
      go_roundw
      case rel => exact ⟨P ++ s, S ++ t, j, q + 1 + 1, rfl, rfl, by go_num, by omega, by rw [ByteArray.size_append]; omega, by rw [ByteArray.size_append]; omega, by omega, hR4, hG4⟩
      case measure => simp [intOf]
    · obtain rfl : k = 0 := by omega
      go_wp2_with fail
      go_ret2
      exact ⟨P, S, rfl, by omega, by omega, below_rd hB1 hG⟩
end Go.Proofs.YtfnefecoecaokaaDoor
