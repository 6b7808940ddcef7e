/- The model's TextBitPut. -/
import Derived.Test.YtnpkegmkmhambaaWdQ
import Derived.Test.YtnpkegmkmhambaaWdR
import Derived.Test.YtnpkegmkmhambaaWdI
namespace Go.Proofs.Ytnpkegmkmhambaa
open Go.RowKit Go.Shelf wd
set_option linter.unusedVariables false

theorem infoU8 : (Try.prog.info? 5).map (fun i => (i.zero, i.size, i.bytes)) = some (some (.int .u8 0), 1, 1) := by kernel_rfl
def lenV : Value → Nat
  | .slice _ n _ => n
  | _ => 0
theorem byts_len {w : World} {base : Nat} {v : Value} {xs : List Int} (h : Byts w base v xs) : lenV v = xs.length := by
  obtain ⟨g, cap, rfl, _⟩ := h; rfl
theorem wrap_i64n {n : Nat} (h : n < 256) : IntKind.i64.wrap (n : Int) = n := by
  unfold IntKind.wrap; simp [IntKind.signed, IntKind.bits]; omega
theorem shl64_run (P : Program) (x r : Nat) (hx : x < 2) (hr : r < 8) (W : World) : (Op.shift .shl .i64 (x : Int) .i64 (7 - (r : Int))).run P W = .ok (.int .i64 ((x * 2 ^ (7 - r) : Nat) : Int)) W := by
  rcases (by omega : x = 0 ∨ x = 1) with rfl | rfl <;>
  rcases (by omega : r = 0 ∨ r = 1 ∨ r = 2 ∨ r = 3 ∨ r = 4 ∨ r = 5 ∨ r = 6 ∨ r = 7) with rfl | rfl | rfl | rfl | rfl | rfl | rfl | rfl <;> rfl
set_option maxRecDepth 100000 in
set_option maxHeartbeats 4000000 in
theorem specPut_in (s : ByteArray) (k b : Nat) (hs : s.size ≤ 40) (hk : k < 320) (hb : b < 2) (w : World) :
    Calls Try.prog 8 #[.string s, .int .i64 (k : Int), .int .i64 (b : Int)] w fun e w' => e = .returned (.tuple #[.string (putT s k b), .int .i64 (bit s k : Int), .bool true]) ∧ Below w.heap.size w w' := by
  obtain ⟨i0, hi, hz⟩ := Option.map_eq_some_iff.1 infoU8
  simp only [Prod.mk.injEq] at hz
  obtain ⟨hz0, hz1, hz2⟩ := hz
  have hp : bplB s (k : Int) = true := by
    unfold bplB
    rw [decide_eq_true (by omega), decide_eq_true (by omega), decide_eq_true (by omega)]; rfl
  have hbo : (decide ((0 : Int) ≤ (b : Int)) && decide ((b : Int) ≤ 1)) = true := by
    rcases (by omega : b = 0 ∨ b = 1) with rfl | rfl <;> rfl
  have hq : (k : Int) / 8 = ((k / 8 : Nat) : Int) := by omega
  obtain ⟨q, hQ⟩ : ∃ q, k / 8 = q := ⟨_, rfl⟩
  have hr : (k : Int) % 8 = ((k % 8 : Nat) : Int) := by omega
  obtain ⟨r, hR⟩ : ∃ r, k % 8 = r := ⟨_, rfl⟩
  have HQ : Hid (k / 8 = q) := hQ
  have HR : Hid (k % 8 = r) := hR
  have hq40 : q < 40 := by omega
  have hr8 : r < 8 := by omega
  rw [hQ] at hq
  rw [hR] at hr
  clear hQ hR
  go_enter Try.func8, Try.ntmps8
  go_wp2_with (first | (go_at_call 23; refine (l8Bit_any _ _ _).mono ?_; rw [hp]; rintro e w' ⟨rfl, rfl⟩) | (go_at_call 24; refine (wIn_any _ _ _ _).mono ?_; rw [hbo]; rintro e w' ⟨rfl, rfl⟩) | (go_at_call 25; refine (l8Get_any _ _ _ (by omega)).mono ?_; rintro e w' ⟨rfl, rfl⟩))
  rw [run_bytes_of_string w 9 22 5 s Try.underlying9 Try.underlying22 Try.underlying5]
  simp only [Result.andThen]
  rw [Oper.upon_value]
  have hcg := grownCap_ge w s.size 0 5
  have hcm := grownCap_le_maxLen w s.size 0 5 (by unfold maxLen; omega)
  have hbs : (bytesRow s (grownCap w s.size 0 5)).size = grownCap w s.size 0 5 := by unfold bytesRow; simp; show s.size + (_ - s.size) = _; omega
  rw [hbs]
  generalize grownCap w s.size 0 5 = c at hcg hcm ⊢
  clear hbs
  have hb0 := byts_conv w w s c 5 hcg hcm w.heap.size (Nat.le_refl _)
  have hB0 : Below w.heap.size w (w.drew.alloc (.cells (bytesRow s c) 5 (c, c + 1))) := (Below.refl _ _).drew.alloc (Nat.le_refl _) _
  generalize w.drew.alloc (.cells (bytesRow s c) 5 (c, c + 1)) = W0 at hb0 hB0 ⊢
  go_wp2_with fail
  go_loopw [10] (fun v wr => ∃ m, m ≤ q + 1 - s.size ∧ Byts wr w.heap.size v (nx s ++ List.replicate m 0) ∧ Below w.heap.size w wr) (fun v _ => q + 1 - lenV v)
  case atStart => exact ⟨0, Nat.zero_le _, by simpa using hb0, hB0⟩
  case round =>
    obtain ⟨m, hm, hby, hB⟩ := hrel
    have hnl : (nx s ++ List.replicate m (0 : Int)).length = s.size + m := by rw [List.length_append, nx_len, List.length_replicate]
    have HBY : Hid (Byts _ _ _ _) := hby
    obtain ⟨g, cap, hv, hg, hgs, hn, hcm2, hcf, hx⟩ := hby
    subst hv
    by_cases hlt : s.size + m ≤ q
    · generalize hX : nx s ++ List.replicate m (0 : Int) = xs at HBY hnl hn hx ⊢
      have HX : Hid (nx s ++ List.replicate m (0 : Int) = xs) := hX
      have HN : Hid (xs.length = s.size + m) := hnl
      have hnq : (xs.length : Int) ≤ (q : Int) := by omega
      have hn4 : xs.length ≤ 1000000 := by omega
      have hbs := hB.size
      clear hX hnl hx hcf hn hcm2
      go_wp2_with (at_builtin; go_loud (refine wpList_byts rfl (.tmp 31) (.tmp 32) 22 rfl 5 i0 Try.underlying22 hi hz0 hz1 hz2 _ w.heap.size _ xs rfl (byts_kept HBY.out ((Below.refl _ _).alloc (Nat.le_refl _) _)) hn4 (by simp; omega) _ _ 0 rfl (Boxed.new wr 5 (.int .u8 0)).cell ?_; intro v' w4 hby4 hb4))
      have hl4 := byts_len hby4
      have HBY4 : Hid (Byts w4 w.heap.size v' (xs ++ [0])) := hby4
      have HL4 : Hid (lenV v' = xs.length + 1) := by show _ = _; rw [hl4]; simp
      clear hby4 hl4
      obtain ⟨g4, c4, hv4, _⟩ := HBY4.out
      subst hv4
      go_wp2_with fail
      go_roundw
      case rel => exact ⟨m + 1, by have := HN.out; omega, by rw [← rep_snoc, HX.out]; exact HBY4.out, (hB.alloc hB.size _).trans hb4⟩
      case measure =>
        have h4 := HL4.out
        have h5 : lenV (.slice (some ⟨g, 0, none⟩) xs.length cap) = xs.length := rfl
        rw [h4, h5]; omega
    · obtain rfl : m = q + 1 - s.size := by omega
      rw [← nx_pad] at HBY hnl hn hx ⊢
      have hxa : ∀ i, i < (padT s q).size → (nx (padT s q)).getD i 0 = (byt s i : Int) := fun i hi => by rw [nx_at _ hi, padT_at]
      have hxl := nx_len (padT s q)
      have hput := put_text s k b
      rw [HQ.out, HR.out] at hput
      generalize padT s q = t at HBY hnl hn hx hxa hxl hput ⊢
      generalize hX : nx t = xs at HBY hnl hn hx hxa hxl hput ⊢
      clear hX
      have hqn : q < xs.length := by omega
      have HXL : Hid (xs.length = t.size) := hxl
      have hc0 := hx q hqn
      rw [hxa q (by omega)] at hc0
      have hf0 := (hcf q (by omega)).2
      have hgt : ¬ ((xs.length : Nat) : Int) ≤ (q : Int) := by omega
      have HG : Hid (w.heap.size ≤ g) := hg
      have HX : Hid (∀ j, j < xs.length → wr.cell? ⟨g, j, none⟩ = some (.int .u8 (xs.getD j 0))) := hx
      have HXA : Hid (∀ i, i < t.size → xs.getD i 0 = (byt s i : Int)) := hxa
      have HB : Hid (Below w.heap.size w wr) := hB
      clear hxl hnl hx hxa hcf HBY hB hcm2
      go_wp2_with fail
      have hfl := flip_u8 (x := byt s q) hr8 hb (byt_lt s q)
      have hwq : IntKind.i64.wrap (q : Int) = (q : Int) := by unfold IntKind.wrap; simp [IntKind.signed, IntKind.bits]; omega
      have hwr : IntKind.i64.wrap (r : Int) = (r : Int) := by unfold IntKind.wrap; simp [IntKind.signed, IntKind.bits]; omega
      have hw7 : IntKind.i64.wrap (7 - (r : Int)) = 7 - (r : Int) := by unfold IntKind.wrap; simp [IntKind.signed, IntKind.bits]; omega
      have htm : ((k : Int)).tmod 8 = (r : Int) := by rw [Int.tmod_eq_emod_of_nonneg (by omega)]; exact hr
      have hs1 := shl_run Try.prog 1 r (by decide) hr8
      have hs2 := shl64_run Try.prog b r hb hr8
      refine wp_region_L (S := (fun w' => w'.cell? ⟨g, q, none⟩ = some (.int .u8 (byt s q : Int)) ∧ w'.frozen? ⟨g, q, none⟩ = false ∧ w' = wr.drew)) 21 (by kernel_rfl) (by exact ⟨hc0, hf0, rfl⟩) (fun hHeld => ?_)
      refine takeL (i := 0) (d := (some 34)) (v := ?_) rfl rfl (by kernel_rfl) (by kernel_rfl) (by kernel_rfl) (by kernel_rfl) (by kernel_rfl) (fun _ _ _ h => h) (by kernel_rfl) ?_ (by assumption) ?_
      rotate_left
      · (intro w hSw; (try dsimp only at hSw); go_simp; try with_reducible rfl)
      try simp only [Act.put, List.setIfInBounds_toArray, List.set_cons_succ, List.set_cons_zero]
      refine takeL (i := 1) (d := (some 35)) (v := ?_) rfl rfl (by kernel_rfl) (by kernel_rfl) (by kernel_rfl) (by kernel_rfl) (by kernel_rfl) (fun _ _ _ h => h) (by kernel_rfl) ?_ (by assumption) ?_
      rotate_left
      · (intro w hSw; (try dsimp only at hSw); go_simp; try with_reducible rfl)
      try simp only [Act.put, List.setIfInBounds_toArray, List.set_cons_succ, List.set_cons_zero]
      refine takeL (i := 2) (d := (some 36)) (v := ?_) rfl rfl (by kernel_rfl) (by kernel_rfl) (by kernel_rfl) (by kernel_rfl) (by kernel_rfl) (fun _ _ _ h => h) (by kernel_rfl) ?_ (by assumption) ?_
      rotate_left
      · (intro w hSw; (try dsimp only at hSw); go_simp; try with_reducible rfl)
      try simp only [Act.put, List.setIfInBounds_toArray, List.set_cons_succ, List.set_cons_zero]
      refine takeL (i := 3) (d := (some 37)) (v := ?_) rfl rfl (by kernel_rfl) (by kernel_rfl) (by kernel_rfl) (by kernel_rfl) (by kernel_rfl) (fun _ _ _ h => h) (by kernel_rfl) ?_ (by assumption) ?_
      rotate_left
      · (intro w hSw; (try dsimp only at hSw); go_simp; try with_reducible rfl)
      try simp only [Act.put, List.setIfInBounds_toArray, List.set_cons_succ, List.set_cons_zero]
      refine takeL (i := 4) (d := (some 38)) (v := ?_) rfl rfl (by kernel_rfl) (by kernel_rfl) (by kernel_rfl) (by kernel_rfl) (by kernel_rfl) (fun _ _ _ h => h) (by kernel_rfl) ?_ (by assumption) ?_
      rotate_left
      · (intro w hSw; (try dsimp only at hSw); go_simp; try with_reducible rfl)
      try simp only [Act.put, List.setIfInBounds_toArray, List.set_cons_succ, List.set_cons_zero]
      refine takeL (i := 5) (d := (some 39)) (v := ?_) rfl rfl (by kernel_rfl) (by kernel_rfl) (by kernel_rfl) (by kernel_rfl) (by kernel_rfl) (fun _ _ _ h => h) (by kernel_rfl) ?_ (by assumption) ?_
      rotate_left
      · (intro w hSw; (try dsimp only at hSw); go_simp; try with_reducible rfl)
      try simp only [Act.put, List.setIfInBounds_toArray, List.set_cons_succ, List.set_cons_zero]
      refine takeL (i := 6) (d := (some 40)) (v := ?_) rfl rfl (by kernel_rfl) (by kernel_rfl) (by kernel_rfl) (by kernel_rfl) (by kernel_rfl) (fun _ _ _ h => h) (by kernel_rfl) ?_ (by assumption) ?_
      rotate_left
      · (intro w hSw; (try dsimp only at hSw); go_simp; try with_reducible rfl)
      try simp only [Act.put, List.setIfInBounds_toArray, List.set_cons_succ, List.set_cons_zero]
      refine takeL (i := 7) (d := (some 41)) (v := ?_) rfl rfl (by kernel_rfl) (by kernel_rfl) (by kernel_rfl) (by kernel_rfl) (by kernel_rfl) (fun _ _ _ h => h) (by kernel_rfl) ?_ (by assumption) ?_
      rotate_left
      · (intro w hSw; (try dsimp only at hSw); go_simp; try with_reducible rfl)
      try simp only [Act.put, List.setIfInBounds_toArray, List.set_cons_succ, List.set_cons_zero]
      refine takeL (i := 8) (d := (some 42)) (v := ?_) rfl rfl (by kernel_rfl) (by kernel_rfl) (by kernel_rfl) (by kernel_rfl) (by kernel_rfl) (fun _ _ _ h => h) (by kernel_rfl) ?_ (by assumption) ?_
      rotate_left
      · (intro w hSw; (try dsimp only at hSw); go_simp; try with_reducible rfl)
      try simp only [Act.put, List.setIfInBounds_toArray, List.set_cons_succ, List.set_cons_zero]
      refine takeL (i := 9) (d := (some 43)) (v := ?_) rfl rfl (by kernel_rfl) (by kernel_rfl) (by kernel_rfl) (by kernel_rfl) (by kernel_rfl) (fun _ _ _ h => h) (by kernel_rfl) ?_ (by assumption) ?_
      rotate_left
      · (intro w hSw; (try dsimp only at hSw); go_simp; try with_reducible rfl)
      try simp only [Act.put, List.setIfInBounds_toArray, List.set_cons_succ, List.set_cons_zero]
      refine takeL (i := 10) (d := (some 44)) (v := ?_) rfl rfl (by kernel_rfl) (by kernel_rfl) (by kernel_rfl) (by kernel_rfl) (by kernel_rfl) (fun _ _ _ h => h) (by kernel_rfl) ?_ (by assumption) ?_
      rotate_left
      · (intro w hSw; (try dsimp only at hSw); go_simp; try with_reducible rfl)
      try simp only [Act.put, List.setIfInBounds_toArray, List.set_cons_succ, List.set_cons_zero]
      refine takeL (i := 11) (d := (some 45)) (v := ?_) rfl rfl (by kernel_rfl) (by kernel_rfl) (by kernel_rfl) (by kernel_rfl) (by kernel_rfl) (fun _ _ _ h => h) (by kernel_rfl) ?_ (by assumption) ?_
      rotate_left
      · (intro w hSw; (try dsimp only at hSw); go_simp; try with_reducible rfl)
      try simp only [Act.put, List.setIfInBounds_toArray, List.set_cons_succ, List.set_cons_zero]
      refine takeL (i := 12) (d := (some 46)) (v := ?_) rfl rfl (by kernel_rfl) (by kernel_rfl) (by kernel_rfl) (by kernel_rfl) (by kernel_rfl) (fun _ _ _ h => h) (by kernel_rfl) ?_ (by assumption) ?_
      rotate_left
      · (intro w hSw; (try dsimp only at hSw); go_simp; try with_reducible rfl)
      try simp only [Act.put, List.setIfInBounds_toArray, List.set_cons_succ, List.set_cons_zero]
      refine takeL (i := 13) (d := (some 47)) (v := ?_) rfl rfl (by kernel_rfl) (by kernel_rfl) (by kernel_rfl) (by kernel_rfl) (by kernel_rfl) (fun _ _ _ h => h) (by kernel_rfl) ?_ (by assumption) ?_
      rotate_left
      · (intro w hSw; (try dsimp only at hSw); go_simp; try with_reducible rfl)
      try simp only [Act.put, List.setIfInBounds_toArray, List.set_cons_succ, List.set_cons_zero]
      refine takeL (i := 14) (d := (some 48)) (v := ?_) rfl rfl (by kernel_rfl) (by kernel_rfl) (by kernel_rfl) (by kernel_rfl) (by kernel_rfl) (fun _ _ _ h => h) (by kernel_rfl) ?_ (by assumption) ?_
      rotate_left
      · (intro w hSw; (try dsimp only at hSw); go_simp; try with_reducible rfl)
      try simp only [Act.put, List.setIfInBounds_toArray, List.set_cons_succ, List.set_cons_zero]
      refine takeL (i := 15) (d := (some 49)) (v := ?_) rfl rfl (by kernel_rfl) (by kernel_rfl) (by kernel_rfl) (by kernel_rfl) (by kernel_rfl) (fun _ _ _ h => h) (by kernel_rfl) ?_ (by assumption) ?_
      rotate_left
      · (intro w hSw; (try dsimp only at hSw); go_simp; try with_reducible rfl)
      try simp only [Act.put, List.setIfInBounds_toArray, List.set_cons_succ, List.set_cons_zero]
      refine takeL (i := 16) (d := (some 50)) (v := ?_) rfl rfl (by kernel_rfl) (by kernel_rfl) (by kernel_rfl) (by kernel_rfl) (by kernel_rfl) (fun _ _ _ h => h) (by kernel_rfl) ?_ (by assumption) ?_
      rotate_left
      · (intro w hSw; (try dsimp only at hSw); go_simp; try with_reducible rfl)
      try simp only [Act.put, List.setIfInBounds_toArray, List.set_cons_succ, List.set_cons_zero]
      refine takeL (i := 17) (d := (some 51)) (v := ?_) rfl rfl (by kernel_rfl) (by kernel_rfl) (by kernel_rfl) (by kernel_rfl) (by kernel_rfl) (fun _ _ _ h => h) (by kernel_rfl) ?_ (by assumption) ?_
      rotate_left
      · (intro w hSw; (try dsimp only at hSw); go_simp; try with_reducible rfl)
      try simp only [Act.put, List.setIfInBounds_toArray, List.set_cons_succ, List.set_cons_zero]
      refine takeL (i := 18) (d := (some 52)) (v := ?_) rfl rfl (by kernel_rfl) (by kernel_rfl) (by kernel_rfl) (by kernel_rfl) (by kernel_rfl) (fun _ _ _ h => h) (by kernel_rfl) ?_ (by assumption) ?_
      rotate_left
      · (intro w hSw; (try dsimp only at hSw); go_simp; try with_reducible rfl)
      try simp only [Act.put, List.setIfInBounds_toArray, List.set_cons_succ, List.set_cons_zero]
      refine takeL (i := 19) (d := (some 53)) (v := ?_) rfl rfl (by kernel_rfl) (by kernel_rfl) (by kernel_rfl) (by kernel_rfl) (by kernel_rfl) (fun _ _ _ h => h) (by kernel_rfl) ?_ (by assumption) ?_
      rotate_left
      · (intro w hSw; (try dsimp only at hSw); go_simp; try with_reducible rfl)
      try simp only [Act.put, List.setIfInBounds_toArray, List.set_cons_succ, List.set_cons_zero]
      refine takeL (i := 20) (d := (some 54)) (v := ?_) rfl rfl (by kernel_rfl) (by kernel_rfl) (by kernel_rfl) (by kernel_rfl) (by kernel_rfl) (fun _ _ _ h => h) (by kernel_rfl) ?_ (by assumption) ?_
      rotate_left
      · (intro w hSw; (try dsimp only at hSw); go_simp; try with_reducible rfl)
      try simp only [Act.put, List.setIfInBounds_toArray, List.set_cons_succ, List.set_cons_zero]
      refine wpAnyL_ready (rs := [21]) (by kernel_rfl) (by simp) ?_
      refine AllReadyL.last rfl (fun K hK => ?_)
      go_simp
      refine hK.out _ _ ?_
      clear hK K
      try simp only [Act.put, List.setIfInBounds_toArray, List.set_cons_succ, List.set_cons_zero]
      refine wpAnyL_done (by kernel_rfl) ?_ _
      have hp2 := two_le hr8
      have hbr : b * 2 ^ (7 - r) < 256 := by rcases (by omega : b = 0 ∨ b = 1) with rfl | rfl <;> omega
      have hwa : IntKind.u8.wrap (2 ^ (7 - r)) = ((2 ^ (7 - r) : Nat) : Int) := by
        rw [← wrap_u8 (n := 2 ^ (7 - r)) (by omega)]; simp
      have hwc : IntKind.i64.wrap ((b : Int) * 2 ^ (7 - r)) = ((b * 2 ^ (7 - r) : Nat) : Int) := by
        have e : ((b : Int) * 2 ^ (7 - r)) = ((b * 2 ^ (7 - r) : Nat) : Int) := by simp
        rw [e]; exact wrap_i64n hbr
      have hwb := wrap_u8 hbr
      rw [hwa, hwc, hwb, hfl]
      clear hwa hwc hwb hfl hs1 hs2 hHeld htm hwq hwr hw7
      have hput' : strOfNums (xs.set q (flip1 (byt s q) r b : Int)) = putT s k b := ByteArray.ext hput
      have hB3 : Below w.heap.size w (wr.setCell ⟨g, q, none⟩ (.int .u8 (flip1 (byt s q) r b : Int))).drew := (HB.out.setCell (p := ⟨g, q, none⟩) HG.out _).drew
      have hc3 : ∀ j, j < xs.length → (wr.setCell ⟨g, q, none⟩ (.int .u8 (flip1 (byt s q) r b : Int))).drew.cell? ⟨g, 0 + j, none⟩ = some (.int .u8 ((xs.set q (flip1 (byt s q) r b : Int)).getD j 0)) := by
        intro j hj
        rw [Nat.zero_add]
        by_cases e : j = q
        · subst e
          refine (World.cell?_setCell_same wr _ _ hc0).trans ?_
          rw [List.getD_eq_getElem?_getD, List.getElem?_set_self hj]
          rfl
        · refine (World.cell?_setCell_other wr _ _ _ (by simp; try omega)).trans ?_
          rw [HX.out j hj, List.getD_eq_getElem?_getD, List.getD_eq_getElem?_getD, List.getElem?_set_ne (fun h => e h.symm)]
      generalize (wr.setCell ⟨g, q, none⟩ (.int .u8 (flip1 (byt s q) r b : Int))).drew = W3 at hB3 hc3 ⊢
      have hcv := run_convert_bytes_arg W3 22 5 Try.underlying22 Try.underlying5 g 0 xs.length cap (xs.set q (flip1 (byt s q) r b : Int)) (by rw [List.length_set]) hc3 9 Try.underlying9
      rw [hput'] at hcv
      have HB3 : Hid (Below w.heap.size w W3) := hB3
      clear hB3 hc3 hput hput' HX HXA hc0 hf0
      go_wp2_with fail
      go_ret3
      exact ⟨rfl, HB3.out⟩
set_option maxRecDepth 100000 in
set_option maxHeartbeats 4000000 in
theorem specPut_no (s : ByteArray) (a b : Int) (h : putB s a b = false) (w : World) :
    Calls Try.prog 8 #[.string s, .int .i64 a, .int .i64 b] w fun e w' => e = .returned (.tuple #[.string s, .int .i64 0, .bool false]) ∧ Below w.heap.size w w' := by
  cases hp : bplB s a with
  | false =>
    go_enter Try.func8, Try.ntmps8
    go_wp2_with (go_at_call 23; refine (l8Bit_any _ _ _).mono ?_; rw [hp]; rintro e w' ⟨rfl, rfl⟩)
    go_ret3
    exact ⟨rfl, Below.refl _ _⟩
  | true =>
    have hbo : (decide (0 ≤ b) && decide (b ≤ 1)) = false := by
      unfold putB at h
      rw [hp, Bool.true_and, Bool.or_eq_false_iff, decide_eq_false_iff_not, decide_eq_false_iff_not] at h
      rw [Bool.and_eq_false_iff, decide_eq_false_iff_not, decide_eq_false_iff_not]
      omega
    go_enter Try.func8, Try.ntmps8
    go_wp2_with (first | (go_at_call 23; refine (l8Bit_any _ _ _).mono ?_; rw [hp]; rintro e w' ⟨rfl, rfl⟩) | (go_at_call 24; refine (wIn_any _ _ _ _).mono ?_; rw [hbo]; rintro e w' ⟨rfl, rfl⟩))
    go_ret3
    exact ⟨rfl, Below.refl _ _⟩
theorem specPut_any (s : ByteArray) (a b : Int) (w : World) :
    Calls Try.prog 8 #[.string s, .int .i64 a, .int .i64 b] w fun e w' => e = .returned (.tuple #[.string (putX s a b), .int .i64 (putW s a b), .bool (putB s a b)]) ∧ Below w.heap.size w w' := by
  unfold putX putW
  cases h : putB s a b with
  | false =>
    rw [if_neg (by simp), if_neg (by simp)]
    exact specPut_no s a b h w
  | true =>
    obtain ⟨hs, k, c, rfl, rfl, hk, hc⟩ := put_cases s a b h
    rw [if_pos rfl, if_pos rfl]
    exact specPut_in s k c hs hk hc w
end Go.Proofs.Ytnpkegmkmhambaa
