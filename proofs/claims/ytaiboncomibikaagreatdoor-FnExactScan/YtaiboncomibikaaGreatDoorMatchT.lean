/- The library's Trim of stars: what is left is empty just if all were stars. -/
import Derived.Test.YtaiboncomibikaaGreatDoorMatchS
namespace Go.Proofs.YtaiboncomibikaaGreatDoor
open Go.RowKit

theorem bytes_len (s : ByteArray) : s.data.toList.length = s.size := by simp
theorem front_data (s : ByteArray) (k : Nat) : (s.extract 0 k).data.toList = s.data.toList.take k := by
  rw [Lib.extract_data]; simp
theorem last_snoc (s : ByteArray) (h : 0 < s.size) : s.data.toList = (s.extract 0 (s.size - 1)).data.toList ++ [s[s.size - 1]'(by omega)] := by
  rw [front_data]
  have h1 : s.data.toList.length - 1 < s.data.toList.length := by rw [bytes_len]; omega
  have h2 := List.take_append_getElem (l := s.data.toList) (i := s.size - 1) (by rw [bytes_len]; omega)
  rw [show s.size - 1 + 1 = s.data.toList.length by rw [bytes_len]; omega, List.take_length] at h2
  exact h2.symm
theorem ret_s {a b : ByteArray} (h : a = b) : Ending.returned (.string a) = .returned (.string b) := by rw [h]
theorem stars_cons (c : UInt8) (r : List UInt8) : stars (c :: r) = ((c == 42) && stars r) := rfl
theorem stars_app (a b : List UInt8) : stars (a ++ b) = (stars a && stars b) := by unfold stars; rw [List.all_append]

def isR (s r : ByteArray) : Prop := ∃ z, s.data.toList = r.data.toList ++ z ∧ stars z = true
def isL (s r : ByteArray) : Prop := ∃ z, s.data.toList = z ++ r.data.toList ∧ stars z = true
def ends (r : ByteArray) : Prop := r.data.toList = [] ∨ stars r.data.toList = false
theorem isR_refl (s : ByteArray) : isR s s := ⟨[], by simp, rfl⟩
theorem isL_refl (s : ByteArray) : isL s s := ⟨[], by simp, rfl⟩
theorem isR_len {s r : ByteArray} (h : isR s r) : r.size ≤ s.size := by
  obtain ⟨z, hz, _⟩ := h
  have := congrArg List.length hz
  rw [List.length_append, bytes_len, bytes_len] at this; omega
theorem isR_step {s r : ByteArray} (h : isR s r) (h0 : 0 < r.size) (hc : r[r.size - 1]'(by omega) = 42) : isR s (r.extract 0 (r.size - 1)) := by
  obtain ⟨z, hz, hs⟩ := h
  refine ⟨42 :: z, ?_, by rw [stars_cons, hs]; rfl⟩
  rw [hz, last_snoc r h0, hc, List.append_assoc]; rfl
theorem isL_step {s r : ByteArray} (h : isL s r) (h0 : 0 < r.size) (hc : r[0] = 42) : isL s (r.extract 1 r.size) := by
  obtain ⟨z, hz, hs⟩ := h
  refine ⟨z ++ [42], ?_, by rw [stars_app, hs]; rfl⟩
  rw [hz, head_tail r h0, hc, List.append_assoc]; rfl
theorem ends_empty {r : ByteArray} (h : r.size = 0) : ends r := .inl (empty_of r h)
theorem ends_last {r : ByteArray} (h0 : 0 < r.size) (hc : r[r.size - 1]'(by omega) ≠ 42) : ends r := by
  right; rw [last_snoc r h0, stars_app, stars_cons]
  have : (r[r.size - 1]'(by omega) == 42) = false := by simpa using hc
  rw [this]; simp
theorem ends_first {r : ByteArray} (h0 : 0 < r.size) (hc : r[0] ≠ 42) : ends r := by
  right; rw [head_tail r h0, stars_cons]
  have : (r[0] == 42) = false := by simpa using hc
  rw [this]; rfl
theorem trim_stars {s r q : ByteArray} (h : isR s r) (h2 : isL r q) (he2 : ends q) : q.toList.isEmpty = stars s.data.toList := by
  obtain ⟨z, hz, hs⟩ := h
  obtain ⟨y, hy, hs2⟩ := h2
  rw [ByteArray.toList_eq, hz, stars_app, hs, Bool.and_true]
  rcases he2 with h0 | h0
  · rw [h0] at hy ⊢
    rw [List.append_nil] at hy
    rw [hy, hs2]; rfl
  · rw [hy, stars_app, h0, Bool.and_false]
    cases hq : q.data.toList with
    | nil => rw [hq] at h0; cases h0
    | cons a b => rfl

/-! ### trimRightByte: what is left, and stars behind -/
set_option maxHeartbeats 1000000 in
theorem trimRight_any (s : ByteArray) (w : World) (hs : s.size ≤ 9223372036854775807) :
    Calls Tryz.prog 51 #[.string s, .int .u8 42] w fun e w' => (∃ r, e = .returned (.string r) ∧ isR s r ∧ ends r) ∧ w' = w := by
  go_enter Tryz.func51, Tryz.ntmps51
  go_wp2_with fail
  go_loop [0] (fun x => ∃ r, x = .string r ∧ isR s r) (fun x => match x with | .string r => r.size | _ => 0)
  case atStart => exact ⟨s, rfl, isR_refl s⟩
  case round =>
    obtain ⟨r, rfl, hR⟩ := hrel
    have hle := isR_len hR
    by_cases h0 : r.size = 0
    · go_wp2_with fail
      go_ret
      exact ⟨⟨r, rfl, hR, ends_empty h0⟩, rfl⟩
    · have h1 : 0 < r.size := by omega
      have h2 : r.size - 1 < r.size := by omega
      have h3 : ((r.size : Int) - 1).toNat = r.size - 1 := by omega
      clear h0
      by_cases hc : r[r.size - 1] = 42
      · have hq := c42 hc
        have HN := isR_step hR h1 hc
        clear hc hR
        go_wp2_with fail
        go_round
        case rel => exact ⟨_, rfl, HN⟩
        case measure => simp; omega
      · have hq := n42 hc
        have HN := ends_last h1 hc
        clear hc
        go_wp2_with fail
        go_ret
        exact ⟨⟨r, rfl, hR, HN⟩, rfl⟩
set_option maxHeartbeats 1000000 in
theorem trimLeft_any (s : ByteArray) (w : World) :
    Calls Tryz.prog 50 #[.string s, .int .u8 42] w fun e w' => (∃ r, e = .returned (.string r) ∧ isL s r ∧ ends r) ∧ w' = w := by
  go_enter Tryz.func50, Tryz.ntmps50
  go_wp2_with fail
  go_loop [0] (fun x => ∃ r, x = .string r ∧ isL s r) (fun x => match x with | .string r => r.size | _ => 0)
  case atStart => exact ⟨s, rfl, isL_refl s⟩
  case round =>
    obtain ⟨r, rfl, hR⟩ := hrel
    by_cases h0 : r.size = 0
    · go_wp2_with fail
      go_ret
      exact ⟨⟨r, rfl, hR, ends_empty h0⟩, rfl⟩
    · have h1 : 0 < r.size := by omega
      have h1' : (1 : Int) ≤ (r.size : Int) := by omega
      clear h0
      by_cases hc : r[0] = 42
      · have hq := c42 hc
        have HN := isL_step hR h1 hc
        clear hc hR
        go_wp2_with fail
        go_round
        case rel => exact ⟨_, rfl, HN⟩
        case measure => simp; omega
      · have hq := n42 hc
        have HN := ends_first h1 hc
        clear hc
        go_wp2_with fail
        go_ret
        exact ⟨⟨r, rfl, hR, HN⟩, rfl⟩
set_option maxHeartbeats 1000000 in
theorem trim_one (s c : ByteArray) (w : World) (hs : s.size ≤ 9223372036854775807) (hc : c.size = 1) (hc0 : 0 < c.size) (hce : c.toList.isEmpty = false) (hcb : (c[0].toNat : Int) = 42) :
    Calls Tryz.prog 29 #[.string s, .string c] w fun e w' => (∃ r, e = .returned (.string r) ∧ r.toList.isEmpty = stars s.data.toList) ∧ ∃ m, w' = w.drewN m := by
  by_cases h0 : s.size = 0
  · have he := isEmpty_of s h0
    have hs0 : stars s.data.toList = true := by rw [empty_of s h0]; rfl
    go_enter Tryz.func29, Tryz.ntmps29
    go_wp2_with fail
    go_ret
    exact ⟨⟨_, rfl, by rw [hs0, he]⟩, 0, rfl⟩
  · have h1 : 0 < s.size := by omega
    have he := isEmpty_not s h1
    clear h0
    go_enter Tryz.func29, Tryz.ntmps29
    go_wp2_with fail
    refine wp_region_held_drew (S := (fun w' => ∃ m, w' = w.drewN m)) (by kernel_rfl) (by exact ⟨1, rfl⟩) (fun hHeld => ?_)
    refine takeH (i := 0) (d := (some 22)) (v := ?_) rfl rfl (by kernel_rfl) (by kernel_rfl) (by kernel_rfl) (fun _ _ _ h => h) (by kernel_rfl) ?_ (by assumption) ?_
    rotate_left
    · (intro w hSw; (try dsimp only at hSw); go_simp; try with_reducible rfl)
    try simp only [Act.put, List.setIfInBounds_toArray, List.set_cons_succ, List.set_cons_zero]
    refine takeH (i := 1) (d := (some 23)) (v := ?_) rfl rfl (by kernel_rfl) (by kernel_rfl) (by kernel_rfl) (fun _ _ _ h => h) (by kernel_rfl) ?_ (by assumption) ?_
    rotate_left
    · (intro w hSw; (try dsimp only at hSw); go_simp; try with_reducible rfl)
    try simp only [Act.put, List.setIfInBounds_toArray, List.set_cons_succ, List.set_cons_zero]
    refine takeH (i := 2) (d := (some 24)) (v := ?_) rfl rfl (by kernel_rfl) (by kernel_rfl) (by kernel_rfl) (fun _ _ _ h => h) (by kernel_rfl) ?_ (by assumption) ?_
    rotate_left
    · (intro w hSw; (try dsimp only at hSw); go_simp; try with_reducible rfl)
    try simp only [Act.put, List.setIfInBounds_toArray, List.set_cons_succ, List.set_cons_zero]
    refine takeH (i := 4) (d := (some 26)) (v := ?_) rfl rfl (by kernel_rfl) (by kernel_rfl) (by kernel_rfl) (fun _ _ _ h => h) (by kernel_rfl) ?_ (by assumption) ?_
    rotate_left
    · (intro w hSw; (try dsimp only at hSw); go_simp; try with_reducible rfl)
    try simp only [Act.put, List.setIfInBounds_toArray, List.set_cons_succ, List.set_cons_zero]
    refine takeH (i := 5) (d := (some 27)) (v := ?_) rfl rfl (by kernel_rfl) (by kernel_rfl) (by kernel_rfl) (fun _ _ _ h => h) (by kernel_rfl) ?_ (by assumption) ?_
    rotate_left
    · (intro w hSw; (try dsimp only at hSw); go_simp; try with_reducible rfl)
    try simp only [Act.put, List.setIfInBounds_toArray, List.set_cons_succ, List.set_cons_zero]
    refine wpAnyH_ready (rs := [3]) (by kernel_rfl) (by simp) ?_
    refine AllReadyH.cons rfl (fun K hK => ?_) AllReadyH.nil
    go_simp
    refine (trimRight_any s _ hs).mono ?_; rintro e w3 ⟨⟨r, rfl, hR, _⟩, rfl⟩
    refine hK.out _ _ ?_ (fun hHeld => ?_)
    · exact hHeld
    clear hK K
    try simp only [Act.put, List.setIfInBounds_toArray, List.set_cons_succ, List.set_cons_zero]
    refine wpAnyH_ready (rs := [6]) (by kernel_rfl) (by simp) ?_
    refine AllReadyH.cons rfl (fun K hK => ?_) AllReadyH.nil
    go_simp
    refine (trimLeft_any r _).mono ?_; rintro e w3 ⟨⟨q, rfl, hL, hE⟩, rfl⟩
    refine hK.out _ _ ?_ (fun hHeld => ?_)
    · exact hHeld
    clear hK K
    try simp only [Act.put, List.setIfInBounds_toArray, List.set_cons_succ, List.set_cons_zero]
    refine takeH (i := 7) (d := (some 4)) (v := ?_) rfl rfl (by kernel_rfl) (by kernel_rfl) (by kernel_rfl) (fun _ _ _ h => h) (by kernel_rfl) ?_ (by assumption) ?_
    rotate_left
    · (intro w hSw; (try dsimp only at hSw); go_simp; try with_reducible rfl)
    try simp only [Act.put, List.setIfInBounds_toArray, List.set_cons_succ, List.set_cons_zero]
    refine wpAnyH_done (by kernel_rfl) ?_ _
    go_wp2_with fail
    go_ret
    exact ⟨⟨_, rfl, trim_stars hR hL hE⟩, hHeld⟩
theorem trim_any (s : ByteArray) (w : World) (hs : s.size ≤ 9223372036854775807) :
    Calls Tryz.prog 29 #[.string s, .string ⟨#[42]⟩] w fun e w' => (∃ r, e = .returned (.string r) ∧ r.toList.isEmpty = stars s.data.toList) ∧ ∃ m, w' = w.drewN m :=
  trim_one s ⟨#[42]⟩ w hs rfl (by decide) (isEmpty_not _ (by decide)) rfl
end Go.Proofs.YtaiboncomibikaaGreatDoor
