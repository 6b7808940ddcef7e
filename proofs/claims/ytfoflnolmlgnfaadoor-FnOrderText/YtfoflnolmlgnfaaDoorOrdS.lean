/- The model's reader of a head. -/
import Derived.Test.YtfoflnolmlgnfaaDoorOrdR
import Derived.OwnWalk
namespace Go.Proofs.YtfoflnolmlgnfaaDoor
open Go.RowKit
open num

def tl (s : ByteArray) : List UInt8 := s.data.toList.tail
theorem tl_len (s : ByteArray) : (tl s).length = s.size - 1 := by unfold tl; simp
theorem tl_at (s : ByteArray) (k : Nat) (h : k + 1 < s.size) : (tl s).getD k 0 = s[k + 1] := by
  unfold tl
  rw [List.getD_eq_getElem?_getD, List.getElem?_tail, List.getElem?_eq_getElem (by simpa using h)]; rfl
theorem digs_hit : ∀ (f : Nat) (t : List UInt8) (k : Nat), k < digs f t → isDig (t.getD k 0) = true ∧ k < t.length ∧ k < f
  | 0, _, _, h => by simp [digs] at h
  | _ + 1, [], _, h => by simp [digs] at h
  | f + 1, c :: t, 0, h => by
    unfold digs at h; split at h
    · next hd => exact ⟨by simpa using hd, by simp, by omega⟩
    · simp at h
  | f + 1, c :: t, k + 1, h => by
    unfold digs at h; split at h
    · have := digs_hit f t k (by omega); exact ⟨by simpa using this.1, by simp; omega, by omega⟩
    · simp at h
theorem digs_miss : ∀ (f : Nat) (t : List UInt8), digs f t < t.length → digs f t < f → isDig (t.getD (digs f t) 0) = false
  | 0, _, _, h => by simp [digs] at h
  | _ + 1, [], h, _ => by simp [digs] at h
  | f + 1, c :: t, h, h2 => by
    unfold digs at h h2 ⊢; split
    · next hd => rw [if_pos hd] at h h2; have := digs_miss f t (by simpa using h) (by omega); simpa using this
    · next hd => simpa using hd
/-- where the model's loop over figures ends -/
def hK (s : ByteArray) : Nat := digs 3 (tl s) + 1
theorem hK_on {s : ByteArray} {k : Nat} (h1 : 1 ≤ k) (h : k < hK s) : ∃ hk : k < s.size, 48 ≤ (s[k].toNat : Int) ∧ (s[k].toNat : Int) ≤ 57 ∧ k < 4 := by
  obtain ⟨j, rfl⟩ : ∃ j, k = j + 1 := ⟨k - 1, by omega⟩
  have := digs_hit 3 (tl s) j (by unfold hK at h; omega)
  have hk : j + 1 < s.size := by have := this.2.1; rw [tl_len] at this; omega
  refine ⟨hk, ?_⟩
  have hd := this.1
  rw [tl_at s j hk] at hd
  simp [isDig] at hd
  omega
theorem hK_off {s : ByteArray} (h4 : hK s < 4) (hk : hK s < s.size) : (s[hK s].toNat : Int) < 48 ∨ 57 < (s[hK s].toNat : Int) := by
  have := digs_miss 3 (tl s) (by rw [tl_len]; unfold hK at hk; omega) (by unfold hK at h4; omega)
  rw [tl_at s _ (by unfold hK at hk; exact hk)] at this
  have h2 : isDig s[hK s] = false := this
  simp [isDig] at h2; omega
theorem hK_le (s : ByteArray) : 1 ≤ hK s ∧ hK s ≤ 4 ∧ (hK s ≤ s.size ∨ hK s = 1) := by
  have h1 := digs_cap 3 (tl s); have h2 := digs_le 3 (tl s); rw [tl_len] at h2
  unfold hK; omega
def hdV (s : ByteArray) (sg : Nat) (lo hi : Int) : Value :=
  if s.size = 0 then .tuple #[.int .i64 0, .string ⟨#[]⟩, .int .i64 0]
  else if (s.data.toList.headD 0).toNat ≠ sg ∨ hbad ((tl s).take (digs 3 (tl s))) (tl s) (digs 3 (tl s)) lo hi then .tuple #[.int .i64 0, .string ⟨#[]⟩, .int .i64 (-1)]
  else if (tl s).length ≤ digs 3 (tl s) + 1 then .tuple #[.int .i64 0, .string ⟨#[]⟩, .int .i64 0]
  else .tuple #[.int .i64 (figs ((tl s).take (digs 3 (tl s)))), .string ⟨((tl s).drop (digs 3 (tl s) + 2)).toArray⟩, .int .i64 1]
theorem headD_at {s : ByteArray} (h : 0 < s.size) : s.data.toList.headD 0 = s[0] := by
  rw [List.headD_eq_head?_getD, List.head?_eq_getElem?, List.getElem?_eq_getElem (by simpa using h)]; rfl
theorem bne_t {a b : Int} (h : (a != b) = true) : a ≠ b := by simpa using h
theorem bne_f {a b : Int} (h : (a != b) = false) : a = b := by simpa using h
theorem dig_take (s : ByteArray) : (tl s).take (digs 3 (tl s)) = [] ↔ hK s = 1 := by
  have := digs_le 3 (tl s)
  rw [← List.length_eq_zero_iff, List.length_take]; unfold hK; omega
theorem ext_take (s : ByteArray) : (s.extract 1 (hK s)).data.toList = (tl s).take (digs 3 (tl s)) := by
  rw [Lib.extract_data]; unfold hK tl; simp
theorem hd_zero {s : ByteArray} {sg : Nat} {lo hi : Int} (h : s.size = 0) : hdV s sg lo hi = .tuple #[.int .i64 0, .string ⟨#[]⟩, .int .i64 0] := by unfold hdV; rw [if_pos h]
theorem hd_bad {s : ByteArray} {sg : Nat} {lo hi : Int} (h : 0 < s.size) (hb : (s.data.toList.headD 0).toNat ≠ sg ∨ hbad ((tl s).take (digs 3 (tl s))) (tl s) (digs 3 (tl s)) lo hi) : hdV s sg lo hi = .tuple #[.int .i64 0, .string ⟨#[]⟩, .int .i64 (-1)] := by
  unfold hdV; rw [if_neg (by omega), if_pos hb]
theorem hd_sign {s : ByteArray} {sg : Nat} {lo hi : Int} (h : 0 < s.size) (hb : ((s[0].toNat : Int) != (sg : Int)) = true) : hdV s sg lo hi = .tuple #[.int .i64 0, .string ⟨#[]⟩, .int .i64 (-1)] := by
  refine hd_bad h (.inl ?_); rw [headD_at h]; have := bne_t hb; omega
theorem hd_b1 {s : ByteArray} {sg : Nat} {lo hi : Int} (h : hK s < s.size) (hb : hK s = 1) : hdV s sg lo hi = .tuple #[.int .i64 0, .string ⟨#[]⟩, .int .i64 (-1)] := by
  refine hd_bad (by omega) (.inr (.inl ⟨by rw [tl_len]; unfold hK at h; omega, .inl ((dig_take s).2 hb)⟩))
theorem hd_b2 {s : ByteArray} {sg : Nat} {lo hi : Int} (h : hK s < s.size) (hb : ((s[hK s].toNat : Int) != 13) = true) : hdV s sg lo hi = .tuple #[.int .i64 0, .string ⟨#[]⟩, .int .i64 (-1)] := by
  refine hd_bad (by omega) (.inr (.inl ⟨by rw [tl_len]; unfold hK at h; omega, .inr ?_⟩))
  rw [tl_at s _ h]
  intro e
  have : (s[hK s].toNat : Int) = 13 := by show (s[digs 3 (tl s) + 1].toNat : Int) = 13; rw [e]; rfl
  exact bne_t hb this
theorem hd_b3 {s : ByteArray} {sg : Nat} {lo hi : Int} (h : hK s + 1 < s.size) (hb : ((s[hK s + 1].toNat : Int) != 10) = true) : hdV s sg lo hi = .tuple #[.int .i64 0, .string ⟨#[]⟩, .int .i64 (-1)] := by
  refine hd_bad (by omega) (.inr (.inr (.inl ⟨by rw [tl_len]; unfold hK at h; omega, ?_⟩)))
  rw [tl_at s (digs 3 (tl s) + 1) h]
  intro e
  have : (s[hK s + 1].toNat : Int) = 10 := by show (s[digs 3 (tl s) + 1 + 1].toNat : Int) = 10; rw [e]; rfl
  exact bne_t hb this
theorem hd_b4 {s : ByteArray} {sg : Nat} {lo hi : Int} (h : 1 < hK s) (hb : inB (figs (s.extract 1 (hK s)).data.toList) lo hi = false) : hdV s sg lo hi = .tuple #[.int .i64 0, .string ⟨#[]⟩, .int .i64 (-1)] := by
  have := (hK_le s).2.2
  refine hd_bad (by omega) (.inr (.inr (.inr ⟨?_, ?_⟩)))
  · intro e; have := (dig_take s).1 e; omega
  · rw [← ext_take]; exact hb
theorem not_bad {s : ByteArray} {sg : Nat} {lo hi : Int} (h : 0 < s.size) (h0 : ((s[0].toNat : Int) != (sg : Int)) = false) (h1 : ∀ hk : hK s < s.size, 1 < hK s ∧ ((s[hK s].toNat : Int) != 13) = false)
    (h2 : ∀ hk : hK s + 1 < s.size, ((s[hK s + 1].toNat : Int) != 10) = false) (h3 : 1 < hK s → inB (figs (s.extract 1 (hK s)).data.toList) lo hi = true) :
    ¬ ((s.data.toList.headD 0).toNat ≠ sg ∨ hbad ((tl s).take (digs 3 (tl s))) (tl s) (digs 3 (tl s)) lo hi) := by
  intro hb
  rcases hb with hb | ⟨hk, hb⟩ | ⟨hk, hb⟩ | ⟨hk, hb⟩
  · rw [headD_at h] at hb; have := bne_f h0; omega
  · rw [tl_len] at hk
    have hk' : hK s < s.size := by unfold hK; omega
    obtain ⟨h4, h5⟩ := h1 hk'
    rcases hb with hb | hb
    · have := (dig_take s).1 hb; omega
    · rw [tl_at s _ hk'] at hb
      apply hb; apply UInt8.toNat_inj.1
      have := bne_f h5
      show s[hK s].toNat = 13; omega
  · rw [tl_len] at hk
    have hk' : hK s + 1 < s.size := by unfold hK; omega
    have h5 := h2 hk'
    rw [tl_at s (digs 3 (tl s) + 1) hk'] at hb
    apply hb; apply UInt8.toNat_inj.1
    have := bne_f h5
    show s[hK s + 1].toNat = 10; omega
  · have h4 : 1 < hK s := by
      have := (hK_le s).1
      by_cases h6 : hK s = 1
      · exact absurd ((dig_take s).2 h6) hk
      · omega
    rw [← ext_take, h3 h4] at hb; cases hb
theorem hd_short {s : ByteArray} {sg : Nat} {lo hi : Int} (h : 0 < s.size) (h0 : ((s[0].toNat : Int) != (sg : Int)) = false) (h1 : ∀ hk : hK s < s.size, 1 < hK s ∧ ((s[hK s].toNat : Int) != 13) = false)
    (hl : ¬ hK s + 1 < s.size) (h3 : 1 < hK s → inB (figs (s.extract 1 (hK s)).data.toList) lo hi = true) : hdV s sg lo hi = .tuple #[.int .i64 0, .string ⟨#[]⟩, .int .i64 0] := by
  unfold hdV
  rw [if_neg (by omega), if_neg (not_bad h h0 h1 (fun hk => absurd hk hl) h3), if_pos (by rw [tl_len]; unfold hK at hl; omega)]
theorem ext_drop (s : ByteArray) (k : Nat) : s.extract (k + 1) s.size = ⟨((tl s).drop k).toArray⟩ := by
  apply ByteArray.ext; apply Array.toList_inj.1
  rw [Lib.extract_data]; unfold tl
  rw [List.take_of_length_le (by simp), ← List.drop_one, List.drop_drop, Nat.add_comm 1 k]
theorem hd_ok {s : ByteArray} {sg : Nat} {lo hi : Int} (h0 : ∀ h : 0 < s.size, ((s[0].toNat : Int) != (sg : Int)) = false) (h1 : ∀ hk : hK s < s.size, 1 < hK s ∧ ((s[hK s].toNat : Int) != 13) = false)
    (hl : hK s + 1 < s.size) (h2 : ((s[hK s + 1].toNat : Int) != 10) = false) (h3 : 1 < hK s → inB (figs (s.extract 1 (hK s)).data.toList) lo hi = true) :
    hdV s sg lo hi = .tuple #[.int .i64 (figs (s.extract 1 (hK s)).data.toList), .string (s.extract (hK s + 2) s.size), .int .i64 1] := by
  unfold hdV
  rw [if_neg (by omega), if_neg (not_bad (by omega) (h0 (by omega)) h1 (fun hk => h2) h3), if_neg (by rw [tl_len]; unfold hK at hl; omega), ext_take, ext_drop s (hK s + 1)]
  rfl
theorem hd_okk {s : ByteArray} {k sg : Nat} {lo hi : Int} (hk : hK s = k) {p0 : 0 < s.size} {pk : k < s.size} (h0 : ((s[0].toNat : Int) != (sg : Int)) = false) (h1 : 1 < k) (h2 : ((s[k].toNat : Int) != 13) = false)
    (hl : k + 1 < s.size) (h3 : ((s[k + 1].toNat : Int) != 10) = false) (h4 : inB (figs (s.extract 1 k).data.toList) lo hi = true) :
    hdV s sg lo hi = .tuple #[.int .i64 (figs (s.extract 1 k).data.toList), .string (s.extract (k + 2) s.size), .int .i64 1] := by
  subst hk; exact hd_ok (fun _ => h0) (fun _ => ⟨h1, h2⟩) hl h3 (fun _ => h4)
theorem hd_shortk {s : ByteArray} {k sg : Nat} {lo hi : Int} (hk : hK s = k) (h : 0 < s.size) (h0 : ((s[0].toNat : Int) != (sg : Int)) = false) (h1 : ∀ hk : k < s.size, 1 < k ∧ ((s[k].toNat : Int) != 13) = false)
    (hl : ¬ k + 1 < s.size) (h3 : 1 < k → inB (figs (s.extract 1 k).data.toList) lo hi = true) : hdV s sg lo hi = .tuple #[.int .i64 0, .string ⟨#[]⟩, .int .i64 0] := by
  subst hk; exact hd_short h h0 h1 hl h3
theorem ext_tk (s : ByteArray) (k : Nat) : (s.extract 1 k).data.toList = List.take (k - 1) s.data.toList.tail := by rw [Lib.extract_data, List.drop_one]
theorem ret_v {a b : Value} (h : b = a) : Ending.returned a = .returned b := by rw [h]
theorem ext_size (s : ByteArray) (k : Nat) : (s.extract 1 k).size ≤ s.size := by simp; omega
theorem wrap_midO {a : Int} (h0 : -2000000000000000000 ≤ a) (h1 : a ≤ 2000000000000000000) : IntKind.i64.wrap a = a := by
  unfold IntKind.wrap; simp [IntKind.signed, IntKind.bits]; omega
set_option maxHeartbeats 4000000 in
theorem l1Head_any (s : ByteArray) (sg : Nat) (lo hi : Int) (w : World) (hs : s.size ≤ 1048576) :
    Calls Tryd.prog 37 #[.string s, .int .u8 (sg : Int), .int .i64 lo, .int .i64 hi] w fun e w' => e = .returned (hdV s sg lo hi) ∧ ∃ m, w' = w.drewN m := by
  have hJ := hK_le s
  have hxs := ext_size s (hK s)
  have HON : Hid (∀ k, 1 ≤ k → k < hK s → ∃ hk : k < s.size, 48 ≤ (s[k].toNat : Int) ∧ (s[k].toNat : Int) ≤ 57 ∧ k < 4) := fun k h1 h => hK_on h1 h
  have HOFF : Hid (hK s < 4 → ∀ hk : hK s < s.size, (s[hK s].toNat : Int) < 48 ∨ 57 < (s[hK s].toNat : Int)) := hK_off
  generalize hJe : hK s = J at *
  have HJ : Hid (hK s = J) := hJe
  clear hJe
  go_enter Tryd.func37, Tryd.ntmps37
  go_wp2_with fail
  go_loop [11] (fun i => ∃ k : Nat, i = .int .i64 k ∧ 1 ≤ k ∧ k ≤ J) (fun i => J - (intOf i).toNat)
  case atStart => exact ⟨1, rfl, Nat.le_refl _, hJ.1⟩
  case round =>
    obtain ⟨k, rfl, h1, hk⟩ := hrel
    by_cases hlt : k < J
    · obtain ⟨hks, hd1, hd2, hk4⟩ := HON.out k h1 hlt
      go_wp2_with fail
      go_round
      case rel => exact ⟨k + 1, by go_num, by omega, by omega⟩
      case measure => simp [intOf]; omega
    · have hkJ : k = J := by omega
      subst hkJ
      clear HON hlt hk
      by_cases h0 : s.size = 0
      · go_wp2_with fail
        go_ret3
        exact ⟨ret_v (hd_zero h0), 0, rfl⟩
      · have h0' : 0 < s.size := by omega
        have hz : ((s.size : Int) == 0) = false := by rw [beq_eq_false_iff_ne]; omega
        clear h0
        by_cases hks : k < s.size
        · have hparts : ((s[k].toNat : Int) < 48) ∨ (48 ≤ (s[k].toNat : Int) ∧ (s[k].toNat : Int) ≤ 57 ∧ 4 ≤ (k : Int)) ∨ (48 ≤ (s[k].toNat : Int) ∧ 57 < (s[k].toNat : Int)) := by
            have := HOFF.out
            by_cases h4 : k < 4
            · have := this h4 hks; omega
            · omega
          clear HOFF
          cases hq0 : ((s[0].toNat : Int) != (sg : Int)) with
          | true =>
            rcases hparts with hp | ⟨hp1, hp2, hp3⟩ | ⟨hp1, hp2⟩
            all_goals
              go_wp2_with fail
              go_ret3
              exact ⟨ret_v (hd_sign h0' hq0), 0, rfl⟩
          | false =>
            by_cases hk1 : k = 1
            · have hk1' : ((k : Int) == 1) = true := by simp; omega
              have HK1 : Hid (k = 1) := hk1
              rcases hparts with hp | ⟨hp1, hp2, hp3⟩ | ⟨hp1, hp2⟩
              rotate_left
              · exfalso; omega
              all_goals clear hk1
              all_goals
                go_wp2_with fail
                go_ret3
                exact ⟨ret_v (hd_b1 (by rw [HJ.out]; exact hks) (by rw [HJ.out]; exact HK1.out)), 0, rfl⟩
            · have hk1' : ((k : Int) == 1) = false := by simp; omega
              have hk2 : 1 < (k : Int) := by omega
              cases hq13 : ((s[k].toNat : Int) != 13) with
              | true =>
                rcases hparts with hp | ⟨hp1, hp2, hp3⟩ | ⟨hp1, hp2⟩
                all_goals
                  go_wp2_with fail
                  go_ret3
                  exact ⟨ret_v (hd_b2 (by rw [HJ.out]; exact hks) (by simp only [HJ.out]; exact hq13)), 0, rfl⟩
              | false =>
                have hp : (s[k].toNat : Int) < 48 := by have := bne_f hq13; omega
                clear hparts
                by_cases hks2 : k + 1 < s.size
                · have hks3 : (k : Int) + 1 < (s.size : Int) := by omega
                  cases hq10 : ((s[k + 1].toNat : Int) != 10) with
                  | true =>
                    go_wp2_with fail
                    go_ret3
                    exact ⟨ret_v (hd_b3 (by rw [HJ.out]; exact hks2) (by simp only [HJ.out]; exact hq10)), 0, rfl⟩
                  | false =>
                    cases hin : inB (figs (List.take (k - 1) s.data.toList.tail)) lo hi with
                    | false =>
                      go_wp2_with fail
                      refine (figs_any _ _ (by unfold maxLen; omega)).mono ?_
                      rintro e w' ⟨rfl, rfl⟩
                      go_wp2_with fail
                      refine (l1In_any _ _ _ _).mono ?_
                      rintro e w' ⟨rfl, rfl⟩
                      go_wp2_with fail
                      go_ret3
                      exact ⟨ret_v (hd_b4 (by rw [HJ.out]; omega) (by rw [HJ.out, ext_tk]; exact hin)), 0, rfl⟩
                    | true =>
                      go_wp2_with fail
                      refine (figs_any _ _ (by unfold maxLen; omega)).mono ?_
                      rintro e w' ⟨rfl, rfl⟩
                      go_wp2_with fail
                      refine (l1In_any _ _ _ _).mono ?_
                      rintro e wz ⟨rfl, rfl⟩
                      go_wp2_with fail
                      have e1 : k ≤ s.size := by omega
                      have e2 : (1 : Int) ≤ (k : Int) := by omega
                      obtain ⟨k2, hk2⟩ : ∃ k2, k2 = k + 2 := ⟨_, rfl⟩
                      have HK2 : Hid (k2 = k + 2) := hk2
                      have e3 : IntKind.i64.wrap ((k : Int) + 2) = (k2 : Int) := by rw [wrap_midO (by omega) (by omega)]; omega
                      have e4 : k2 ≤ s.size := by omega
                      clear hk2
                      refine wp_region_held_drew (S := (fun x => ∃ m, x = wz.drewN m)) (by kernel_rfl) (by exact ⟨1, rfl⟩) (fun hHeld => ?_)
                      refine takeH (i := 0) (d := (some 88)) (v := ?_) rfl rfl (by kernel_rfl) (by kernel_rfl) (by kernel_rfl) (fun _ _ _ h => h) (by kernel_rfl) ?_ (by assumption) ?_
                      rotate_left
                      · (intro w hSw; (try dsimp only at hSw); go_simp; try with_reducible rfl)
                      try simp only [Act.put, List.setIfInBounds_toArray, List.set_cons_succ, List.set_cons_zero]
                      refine takeH (i := 1) (d := (some 89)) (v := ?_) rfl rfl (by kernel_rfl) (by kernel_rfl) (by kernel_rfl) (fun _ _ _ h => h) (by kernel_rfl) ?_ (by assumption) ?_
                      rotate_left
                      · (intro w hSw; (try dsimp only at hSw); go_simp; try with_reducible rfl)
                      try simp only [Act.put, List.setIfInBounds_toArray, List.set_cons_succ, List.set_cons_zero]
                      refine takeH (i := 2) (d := (some 90)) (v := ?_) rfl rfl (by kernel_rfl) (by kernel_rfl) (by kernel_rfl) (fun _ _ _ h => h) (by kernel_rfl) ?_ (by assumption) ?_
                      rotate_left
                      · (intro w hSw; (try dsimp only at hSw); go_simp; try with_reducible rfl)
                      try simp only [Act.put, List.setIfInBounds_toArray, List.set_cons_succ, List.set_cons_zero]
                      refine takeH (i := 4) (d := (some 92)) (v := ?_) rfl rfl (by kernel_rfl) (by kernel_rfl) (by kernel_rfl) (fun _ _ _ h => h) (by kernel_rfl) ?_ (by assumption) ?_
                      rotate_left
                      · (intro w hSw; (try dsimp only at hSw); go_simp; try with_reducible rfl)
                      try simp only [Act.put, List.setIfInBounds_toArray, List.set_cons_succ, List.set_cons_zero]
                      refine takeH (i := 5) (d := (some 93)) (v := ?_) rfl rfl (by kernel_rfl) (by kernel_rfl) (by kernel_rfl) (fun _ _ _ h => h) (by kernel_rfl) ?_ (by assumption) ?_
                      rotate_left
                      · (intro w hSw; (try dsimp only at hSw); go_simp; try with_reducible rfl)
                      try simp only [Act.put, List.setIfInBounds_toArray, List.set_cons_succ, List.set_cons_zero]
                      refine takeH (i := 6) (d := (some 94)) (v := ?_) rfl rfl (by kernel_rfl) (by kernel_rfl) (by kernel_rfl) (fun _ _ _ h => h) (by kernel_rfl) ?_ (by assumption) ?_
                      rotate_left
                      · (intro w hSw; (try dsimp only at hSw); go_simp; try with_reducible rfl)
                      try simp only [Act.put, List.setIfInBounds_toArray, List.set_cons_succ, List.set_cons_zero]
                      refine takeH (i := 7) (d := (some 95)) (v := ?_) rfl rfl (by kernel_rfl) (by kernel_rfl) (by kernel_rfl) (fun _ _ _ h => h) (by kernel_rfl) ?_ (by assumption) ?_
                      rotate_left
                      · (intro w hSw; (try dsimp only at hSw); go_simp; try with_reducible rfl)
                      try simp only [Act.put, List.setIfInBounds_toArray, List.set_cons_succ, List.set_cons_zero]
                      refine wpAnyH_ready (rs := [3]) (by kernel_rfl) (by simp) ?_
                      refine AllReadyH.cons rfl (fun K hK => ?_) AllReadyH.nil
                      go_simp
                      refine (figs_any _ _ (by unfold maxLen; omega)).mono ?_; rintro e w3 ⟨rfl, rfl⟩
                      refine hK.out _ _ ?_ (fun hHeld => ?_)
                      · assumption
                      clear hK K
                      try simp only [Act.put, List.setIfInBounds_toArray, List.set_cons_succ, List.set_cons_zero]
                      refine takeH (i := 8) (d := (some 8)) (v := ?_) rfl rfl (by kernel_rfl) (by kernel_rfl) (by kernel_rfl) (fun _ _ _ h => h) (by kernel_rfl) ?_ (by assumption) ?_
                      rotate_left
                      · (intro w hSw; (try dsimp only at hSw); go_simp; try with_reducible rfl)
                      try simp only [Act.put, List.setIfInBounds_toArray, List.set_cons_succ, List.set_cons_zero]
                      refine takeH (i := 9) (d := (some 9)) (v := ?_) rfl rfl (by kernel_rfl) (by kernel_rfl) (by kernel_rfl) (fun _ _ _ h => h) (by kernel_rfl) ?_ (by assumption) ?_
                      rotate_left
                      · (intro w hSw; (try dsimp only at hSw); go_simp; try with_reducible rfl)
                      try simp only [Act.put, List.setIfInBounds_toArray, List.set_cons_succ, List.set_cons_zero]
                      refine takeH (i := 10) (d := (some 10)) (v := ?_) rfl rfl (by kernel_rfl) (by kernel_rfl) (by kernel_rfl) (fun _ _ _ h => h) (by kernel_rfl) ?_ (by assumption) ?_
                      rotate_left
                      · (intro w hSw; (try dsimp only at hSw); go_simp; try with_reducible rfl)
                      try simp only [Act.put, List.setIfInBounds_toArray, List.set_cons_succ, List.set_cons_zero]
                      refine wpAnyH_done (by kernel_rfl) ?_ _
                      go_wp2_with fail
                      go_ret3
                      exact ⟨ret_v (by rw [hd_okk HJ.out hq0 (by omega) hq13 hks2 hq10 (by rw [ext_tk]; exact hin), ext_tk, ← HK2.out]; rfl), hHeld⟩
                · have hks3 : (s.size : Int) ≤ (k : Int) + 1 := by omega
                  cases hin : inB (figs (List.take (k - 1) s.data.toList.tail)) lo hi with
                  | false =>
                    go_wp2_with fail
                    refine (figs_any _ _ (by unfold maxLen; omega)).mono ?_
                    rintro e w' ⟨rfl, rfl⟩
                    go_wp2_with fail
                    refine (l1In_any _ _ _ _).mono ?_
                    rintro e w' ⟨rfl, rfl⟩
                    go_wp2_with fail
                    go_ret3
                    exact ⟨ret_v (hd_b4 (by rw [HJ.out]; omega) (by rw [HJ.out, ext_tk]; exact hin)), 0, rfl⟩
                  | true =>
                    go_wp2_with fail
                    refine (figs_any _ _ (by unfold maxLen; omega)).mono ?_
                    rintro e w' ⟨rfl, rfl⟩
                    go_wp2_with fail
                    refine (l1In_any _ _ _ _).mono ?_
                    rintro e w' ⟨rfl, rfl⟩
                    go_wp2_with fail
                    go_ret3
                    exact ⟨ret_v (hd_shortk HJ.out h0' hq0 (fun _ => ⟨by omega, hq13⟩) (by omega) (fun _ => by rw [ext_tk]; exact hin)), 0, rfl⟩
        · have hks3 : (s.size : Int) ≤ (k : Int) := by omega
          clear HOFF
          cases hq0 : ((s[0].toNat : Int) != (sg : Int)) with
          | true =>
            go_wp2_with fail
            go_ret3
            exact ⟨ret_v (hd_sign h0' hq0), 0, rfl⟩
          | false =>
            by_cases hk1 : k = 1
            · have hk1' : (k : Int) ≤ 1 := by omega
              have HK1 : Hid (k = 1) := hk1
              clear hk1
              go_wp2_with fail
              go_ret3
              exact ⟨ret_v (hd_shortk HJ.out h0' hq0 (fun hk => absurd hk hks) (by omega) (fun hk => absurd hk (by have := HK1.out; omega))), 0, rfl⟩
            · have hk2 : 1 < (k : Int) := by omega
              cases hin : inB (figs (List.take (k - 1) s.data.toList.tail)) lo hi with
              | false =>
                go_wp2_with fail
                refine (figs_any _ _ (by unfold maxLen; omega)).mono ?_
                rintro e w' ⟨rfl, rfl⟩
                go_wp2_with fail
                refine (l1In_any _ _ _ _).mono ?_
                rintro e w' ⟨rfl, rfl⟩
                go_wp2_with fail
                go_ret3
                exact ⟨ret_v (hd_b4 (by rw [HJ.out]; omega) (by rw [HJ.out, ext_tk]; exact hin)), 0, rfl⟩
              | true =>
                go_wp2_with fail
                refine (figs_any _ _ (by unfold maxLen; omega)).mono ?_
                rintro e w' ⟨rfl, rfl⟩
                go_wp2_with fail
                refine (l1In_any _ _ _ _).mono ?_
                rintro e w' ⟨rfl, rfl⟩
                go_wp2_with fail
                go_ret3
                exact ⟨ret_v (hd_shortk HJ.out h0' hq0 (fun hk => absurd hk hks) (by omega) (fun _ => by rw [ext_tk]; exact hin)), 0, rfl⟩
end Go.Proofs.YtfoflnolmlgnfaaDoor
