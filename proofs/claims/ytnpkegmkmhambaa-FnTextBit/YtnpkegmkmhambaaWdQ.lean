/- The program's TextBitPut. -/
import Derived.Test.YtnpkegmkmhambaaWdD
import Derived.Test.YtnpkegmkmhambaaWdP
import Derived.Test.YtnpkegmkmhambaaShelr
import Derived.Test.YtnpkegmkmhambaaTl
import Derived.Laws.IdiomStrings
import Derived.Laws.BytesArg
import Derived.OwnWalk
namespace Go.Proofs.Ytnpkegmkmhambaa
open Go.RowKit Go.Shelf wd
set_option linter.unusedVariables false

attribute [local go_sem] Oper.semAt_some

theorem pads_any (n : Nat) (h : n ≤ 1000) (w : World) : Calls Try.prog 22 #[.string ⟨#[0]⟩, .int .i64 (n : Int)] w fun e w' => e = .returned (.string ⟨(List.replicate n (0 : UInt8)).toArray⟩) ∧ Below w.heap.size w w' := by
  refine (Try.strings_Repeat ⟨#[0]⟩ n w (by omega) (by show 1 * n ≤ _; omega)).mono ?_
  rintro e w' ⟨rfl, hb⟩
  refine ⟨?_, hb⟩
  have := Lib.repeatL_replicate (0 : UInt8) 1 n
  rw [Nat.mul_one] at this
  rw [← this]
  rfl
theorem pad_eq (s : ByteArray) (q : Nat) : s ++ (⟨Array.replicate (q + 1 - s.size) (0 : UInt8)⟩ : ByteArray) = padT s q := by
  refine ByteArray.ext ?_
  rw [ByteArray.data_append]
  unfold padT
  simp
theorem wrap_u8 {n : Nat} (h : n < 256) : IntKind.u8.wrap (n : Int) = n := by
  unfold IntKind.wrap; simp [IntKind.signed, IntKind.bits]; omega
theorem shl_run (P : Program) (x r : Nat) (hx : x < 2) (hr : r < 8) (W : World) : (Op.shift .shl .u8 (x : Int) .i64 (7 - (r : Int))).run P W = .ok (.int .u8 ((x * 2 ^ (7 - r) : Nat) : Int)) W := by
  rcases (by omega : x = 0 ∨ x = 1) with rfl | rfl <;>
  rcases (by omega : r = 0 ∨ r = 1 ∨ r = 2 ∨ r = 3 ∨ r = 4 ∨ r = 5 ∨ r = 6 ∨ r = 7) with rfl | rfl | rfl | rfl | rfl | rfl | rfl | rfl <;> rfl
set_option maxRecDepth 100000 in
set_option maxHeartbeats 4000000 in
theorem implPut_in (s : ByteArray) (k b : Nat) (hs : s.size ≤ 40) (hk : k < 320) (hb : b < 2) (w : World) :
    Calls Try.prog 7 #[.string s, .int .i64 (k : Int), .int .i64 (b : Int)] w fun e w' => e = .returned (.tuple #[.string (putT s k b), .int .i64 (bit s k : Int), .bool true]) ∧ Below w.heap.size w w' := by
  have hp : bplB s (k : Int) = true := by
    unfold bplB
    rw [decide_eq_true (by omega), decide_eq_true (by omega), decide_eq_true (by omega)]; rfl
  have hbo : (decide ((b : Int) = 0) || decide ((b : Int) = 1)) = true := by
    rcases (by omega : b = 0 ∨ b = 1) with rfl | rfl <;> rfl
  have HG : Hid (getV s (k : Int) = (bit s k : Int)) := by show _ = _; unfold getV; rw [if_pos hp]; rfl
  have hq : (k : Int) / 8 = ((k / 8 : Nat) : Int) := by omega
  obtain ⟨q, hQ⟩ : ∃ q, k / 8 = q := ⟨_, rfl⟩
  have hr : (k : Int) % 8 = ((k % 8 : Nat) : Int) := by omega
  obtain ⟨r, hR⟩ : ∃ r, k % 8 = r := ⟨_, rfl⟩
  have HQ : Hid (k / 8 = q) := hQ
  have HR : Hid (k % 8 = r) := hR
  have hq40 : q < 40 := by omega
  have hr8 : r < 8 := by omega
  rw [hQ] at hq
  rw [hR] at hr
  clear hQ hR
  have hmx : max ((q : Int) + 1 - (s.size : Int)) 0 = ((q + 1 - s.size : Nat) : Int) := by omega
  have HM : Hid (((q : Int) + 1 - (s.size : Int)) < 0 → q + 1 - s.size = 0) := by intro h; omega
  go_enter Try.func7, Try.ntmps7
  go_wp2_with (first | (go_at_call 20; refine (bitPlaceOk_any _ _ _).mono ?_; rw [hp]; rintro e w' ⟨rfl, rfl⟩) | (go_at_call 21; refine (bitOk_any _ _).mono ?_; rw [hbo]; rintro e w' ⟨rfl, rfl⟩) | (go_at_call 22; refine (pads_any _ (by omega) _).mono ?_; rintro e w1 ⟨rfl, hb1⟩))
  rw [pad_eq]
  have htl := padT_size s q
  have hxl := nx_len (padT s q)
  have hxa : ∀ i, i < (padT s q).size → (nx (padT s q)).getD i 0 = (byt s i : Int) := fun i hi => by rw [nx_at _ hi, padT_at]
  have hput := put_text s k b
  rw [HQ.out, HR.out] at hput
  generalize padT s q = t at htl hxl hxa hput ⊢
  rw [run_bytes_of_string w1 9 22 5 t Try.underlying9 Try.underlying22 Try.underlying5]
  simp only [Result.andThen]
  rw [Oper.upon_value]
  have hcg := grownCap_ge w1 t.size 0 5
  generalize grownCap w1 t.size 0 5 = c at hcg ⊢
  have hbs : (bytesRow t c).size = c := by unfold bytesRow; simp; show t.size + (c - t.size) = c; omega
  rw [hbs]
  have hB2 : Below w.heap.size w (w1.drew.alloc (.cells (bytesRow t c) 5 (c, c + 1))) := hb1.drew.alloc hb1.size _
  have hcl : ∀ j, j < t.size → (w1.drew.alloc (.cells (bytesRow t c) 5 (c, c + 1))).cell? ⟨w1.heap.size, j, none⟩ = some (.int .u8 (byt s j : Int)) := by
    intro j hj
    have := World.cell?_alloc_mark w1.drew (bytesRow t c) 5 (c, c + 1) j
    rw [bytesRow_at t c j hj] at this
    refine this.trans ?_
    have h2 := hxa j hj
    rw [nx_at t hj, byt_in hj] at h2
    have h3 : ((t.data[j]).toNat : Int) = (byt s j : Int) := h2
    rw [← h3]
  have hfz : (w1.drew.alloc (.cells (bytesRow t c) 5 (c, c + 1))).frozen? ⟨w1.heap.size, q, none⟩ = false := by
    have := World.frozen?_alloc_mark w1.drew (bytesRow t c) 5 c (c + 1) q
    refine this.trans ?_
    rw [decide_eq_false (by omega), Bool.false_and]
  have hsz2 : (w1.drew.alloc (.cells (bytesRow t c) 5 (c, c + 1))).heap.size = w1.heap.size + 1 := by simp
  have hsz1 := hb1.size
  clear hb1
  generalize w1.drew.alloc (.cells (bytesRow t c) 5 (c, c + 1)) = W2 at hB2 hcl hfz hsz2 ⊢
  generalize w1.heap.size = g at hcl hfz hsz2 hsz1 ⊢
  have hc0 := hcl q (by omega)
  have hqt : q < t.size := by omega
  have HT : Hid (t.size = max s.size (q + 1)) := htl
  have HXL : Hid ((nx t).length = t.size) := hxl
  clear htl hxl
  go_wp2_with fail
  have hs1 := shl_run Try.prog 1 r (by decide) hr8
  have hs2 := shl_run Try.prog b r hb hr8
  have hw8 : IntKind.u8.wrap (b : Int) = (b : Int) := by
    rcases (by omega : b = 0 ∨ b = 1) with rfl | rfl <;> rfl
  have hfl := flip_u8 (x := byt s q) hr8 hb (byt_lt s q)
  rw [Nat.one_mul] at hs1
  refine wp_region_L (S := (fun w' => w'.cell? ⟨g, q, none⟩ = some (.int .u8 (byt s q : Int)) ∧ w'.frozen? ⟨g, q, none⟩ = false ∧ w' = W2.drew)) 15 (by kernel_rfl) (by exact ⟨hc0, hfz, rfl⟩) (fun hHeld => ?_)
  refine takeL (i := 0) (d := (some 39)) (v := ?_) rfl rfl (by kernel_rfl) (by kernel_rfl) (by kernel_rfl) (by kernel_rfl) (by kernel_rfl) (fun _ _ _ h => h) (by kernel_rfl) ?_ (by assumption) ?_
  rotate_left
  · (intro w hSw; (try dsimp only at hSw); go_simp; try with_reducible rfl)
  try simp only [Act.put, List.setIfInBounds_toArray, List.set_cons_succ, List.set_cons_zero]
  refine takeL (i := 1) (d := (some 40)) (v := ?_) rfl rfl (by kernel_rfl) (by kernel_rfl) (by kernel_rfl) (by kernel_rfl) (by kernel_rfl) (fun _ _ _ h => h) (by kernel_rfl) ?_ (by assumption) ?_
  rotate_left
  · (intro w hSw; (try dsimp only at hSw); go_simp; try with_reducible rfl)
  try simp only [Act.put, List.setIfInBounds_toArray, List.set_cons_succ, List.set_cons_zero]
  refine takeL (i := 2) (d := (some 41)) (v := ?_) rfl rfl (by kernel_rfl) (by kernel_rfl) (by kernel_rfl) (by kernel_rfl) (by kernel_rfl) (fun _ _ _ h => h) (by kernel_rfl) ?_ (by assumption) ?_
  rotate_left
  · (intro w hSw; (try dsimp only at hSw); go_simp; try with_reducible rfl)
  try simp only [Act.put, List.setIfInBounds_toArray, List.set_cons_succ, List.set_cons_zero]
  refine takeL (i := 3) (d := (some 42)) (v := ?_) rfl rfl (by kernel_rfl) (by kernel_rfl) (by kernel_rfl) (by kernel_rfl) (by kernel_rfl) (fun _ _ _ h => h) (by kernel_rfl) ?_ (by assumption) ?_
  rotate_left
  · (intro w hSw; (try dsimp only at hSw); go_simp; try with_reducible rfl)
  try simp only [Act.put, List.setIfInBounds_toArray, List.set_cons_succ, List.set_cons_zero]
  refine takeL (i := 4) (d := (some 43)) (v := ?_) rfl rfl (by kernel_rfl) (by kernel_rfl) (by kernel_rfl) (by kernel_rfl) (by kernel_rfl) (fun _ _ _ h => h) (by kernel_rfl) ?_ (by assumption) ?_
  rotate_left
  · (intro w hSw; (try dsimp only at hSw); go_simp; try with_reducible rfl)
  try simp only [Act.put, List.setIfInBounds_toArray, List.set_cons_succ, List.set_cons_zero]
  refine takeL (i := 5) (d := (some 44)) (v := ?_) rfl rfl (by kernel_rfl) (by kernel_rfl) (by kernel_rfl) (by kernel_rfl) (by kernel_rfl) (fun _ _ _ h => h) (by kernel_rfl) ?_ (by assumption) ?_
  rotate_left
  · (intro w hSw; (try dsimp only at hSw); go_simp; try with_reducible rfl)
  try simp only [Act.put, List.setIfInBounds_toArray, List.set_cons_succ, List.set_cons_zero]
  refine takeL (i := 6) (d := (some 45)) (v := ?_) rfl rfl (by kernel_rfl) (by kernel_rfl) (by kernel_rfl) (by kernel_rfl) (by kernel_rfl) (fun _ _ _ h => h) (by kernel_rfl) ?_ (by assumption) ?_
  rotate_left
  · (intro w hSw; (try dsimp only at hSw); go_simp; try with_reducible rfl)
  try simp only [Act.put, List.setIfInBounds_toArray, List.set_cons_succ, List.set_cons_zero]
  refine takeL (i := 7) (d := (some 46)) (v := ?_) rfl rfl (by kernel_rfl) (by kernel_rfl) (by kernel_rfl) (by kernel_rfl) (by kernel_rfl) (fun _ _ _ h => h) (by kernel_rfl) ?_ (by assumption) ?_
  rotate_left
  · (intro w hSw; (try dsimp only at hSw); go_simp; try with_reducible rfl)
  try simp only [Act.put, List.setIfInBounds_toArray, List.set_cons_succ, List.set_cons_zero]
  refine takeL (i := 8) (d := (some 47)) (v := ?_) rfl rfl (by kernel_rfl) (by kernel_rfl) (by kernel_rfl) (by kernel_rfl) (by kernel_rfl) (fun _ _ _ h => h) (by kernel_rfl) ?_ (by assumption) ?_
  rotate_left
  · (intro w hSw; (try dsimp only at hSw); go_simp; try with_reducible rfl)
  try simp only [Act.put, List.setIfInBounds_toArray, List.set_cons_succ, List.set_cons_zero]
  refine takeL (i := 9) (d := (some 48)) (v := ?_) rfl rfl (by kernel_rfl) (by kernel_rfl) (by kernel_rfl) (by kernel_rfl) (by kernel_rfl) (fun _ _ _ h => h) (by kernel_rfl) ?_ (by assumption) ?_
  rotate_left
  · (intro w hSw; (try dsimp only at hSw); go_simp; try with_reducible rfl)
  try simp only [Act.put, List.setIfInBounds_toArray, List.set_cons_succ, List.set_cons_zero]
  refine takeL (i := 10) (d := (some 49)) (v := ?_) rfl rfl (by kernel_rfl) (by kernel_rfl) (by kernel_rfl) (by kernel_rfl) (by kernel_rfl) (fun _ _ _ h => h) (by kernel_rfl) ?_ (by assumption) ?_
  rotate_left
  · (intro w hSw; (try dsimp only at hSw); go_simp; try with_reducible rfl)
  try simp only [Act.put, List.setIfInBounds_toArray, List.set_cons_succ, List.set_cons_zero]
  refine takeL (i := 11) (d := (some 50)) (v := ?_) rfl rfl (by kernel_rfl) (by kernel_rfl) (by kernel_rfl) (by kernel_rfl) (by kernel_rfl) (fun _ _ _ h => h) (by kernel_rfl) ?_ (by assumption) ?_
  rotate_left
  · (intro w hSw; (try dsimp only at hSw); go_simp; try with_reducible rfl)
  try simp only [Act.put, List.setIfInBounds_toArray, List.set_cons_succ, List.set_cons_zero]
  refine takeL (i := 12) (d := (some 51)) (v := ?_) rfl rfl (by kernel_rfl) (by kernel_rfl) (by kernel_rfl) (by kernel_rfl) (by kernel_rfl) (fun _ _ _ h => h) (by kernel_rfl) ?_ (by assumption) ?_
  rotate_left
  · (intro w hSw; (try dsimp only at hSw); go_simp; try with_reducible rfl)
  try simp only [Act.put, List.setIfInBounds_toArray, List.set_cons_succ, List.set_cons_zero]
  refine takeL (i := 13) (d := (some 52)) (v := ?_) rfl rfl (by kernel_rfl) (by kernel_rfl) (by kernel_rfl) (by kernel_rfl) (by kernel_rfl) (fun _ _ _ h => h) (by kernel_rfl) ?_ (by assumption) ?_
  rotate_left
  · (intro w hSw; (try dsimp only at hSw); go_simp; try with_reducible rfl)
  try simp only [Act.put, List.setIfInBounds_toArray, List.set_cons_succ, List.set_cons_zero]
  refine takeL (i := 14) (d := (some 53)) (v := ?_) rfl rfl (by kernel_rfl) (by kernel_rfl) (by kernel_rfl) (by kernel_rfl) (by kernel_rfl) (fun _ _ _ h => h) (by kernel_rfl) ?_ (by assumption) ?_
  rotate_left
  · (intro w hSw; (try dsimp only at hSw); go_simp; try with_reducible rfl)
  try simp only [Act.put, List.setIfInBounds_toArray, List.set_cons_succ, List.set_cons_zero]
  refine wpAnyL_ready (rs := [15]) (by kernel_rfl) (by simp) ?_
  refine AllReadyL.last rfl (fun K hK => ?_)
  go_simp
  refine hK.out _ _ ?_
  clear hK K
  try simp only [Act.put, List.setIfInBounds_toArray, List.set_cons_succ, List.set_cons_zero]
  refine wpAnyL_done (by kernel_rfl) ?_ _
  have hp2 := two_le hr8
  have hwa : IntKind.u8.wrap (2 ^ (7 - r)) = ((2 ^ (7 - r) : Nat) : Int) := by
    rw [← wrap_u8 (n := 2 ^ (7 - r)) (by omega)]; simp
  have hwb : IntKind.u8.wrap ((b : Int) * 2 ^ (7 - r)) = ((b * 2 ^ (7 - r) : Nat) : Int) := by
    rw [← wrap_u8 (n := b * 2 ^ (7 - r)) (by rcases (by omega : b = 0 ∨ b = 1) with rfl | rfl <;> omega)]; simp
  rw [hwa, hwb, hfl]
  clear hwa hwb hfl hs1 hs2 hw8 hHeld
  have hput' : strOfNums ((nx t).set q (flip1 (byt s q) r b : Int)) = putT s k b := ByteArray.ext hput
  have hB3 : Below w.heap.size w (W2.setCell ⟨g, q, none⟩ (.int .u8 (flip1 (byt s q) r b : Int))).drew := (hB2.setCell (p := ⟨g, q, none⟩) hsz1 _).drew
  have hc3 : ∀ j, j < t.size → (W2.setCell ⟨g, q, none⟩ (.int .u8 (flip1 (byt s q) r b : Int))).drew.cell? ⟨g, 0 + j, none⟩ = some (.int .u8 (((nx t).set q (flip1 (byt s q) r b : Int)).getD j 0)) := by
    intro j hj
    rw [Nat.zero_add]
    by_cases e : j = q
    · subst e
      refine (World.cell?_setCell_same W2 _ _ hc0).trans ?_
      rw [List.getD_eq_getElem?_getD, List.getElem?_set_self (by rw [HXL.out]; exact hj)]
      rfl
    · refine (World.cell?_setCell_other W2 _ _ _ (by simp; try omega)).trans ?_
      rw [hcl j hj, List.getD_eq_getElem?_getD, List.getElem?_set_ne (fun h => e h.symm), ← List.getD_eq_getElem?_getD, hxa j hj]
  have hsz3 : g < (W2.setCell ⟨g, q, none⟩ (.int .u8 (flip1 (byt s q) r b : Int))).drew.heap.size := by
    show g < (W2.setCell _ _).heap.size
    have : (W2.setCell ⟨g, q, none⟩ (.int .u8 (flip1 (byt s q) r b : Int))).heap.size = W2.heap.size := by simp [World.setCell]
    rw [this, hsz2]; omega
  generalize (W2.setCell ⟨g, q, none⟩ (.int .u8 (flip1 (byt s q) r b : Int))).drew = W3 at hB3 hc3 hsz3 ⊢
  have HCV : Hid (∀ w', Below W3.heap.size W3 w' → (convert 22 9 (.slice (some ⟨g, 0, none⟩) t.size c)).run Try.prog w' = .ok (.string (putT s k b)) w') := fun w' hw => by
    have := run_convert_bytes_arg w' 22 5 Try.underlying22 Try.underlying5 g 0 t.size c ((nx t).set q (flip1 (byt s q) r b : Int)) (by rw [List.length_set, HXL.out]) (fun i hi => (hw.cell (p := ⟨g, 0 + i, none⟩) hsz3).trans (hc3 i hi)) 9 Try.underlying9
    rw [hput'] at this
    exact this
  have HB3 : Hid (Below w.heap.size w W3) := hB3
  clear hB3 hc3 hput hput' hcl hfz hc0 hxa hB2 hsz2
  go_wp2_with fail
  refine wp_region_held_drew (S := (fun w' => (convert 22 9 (.slice (some ⟨g, 0, none⟩) t.size c)).run Try.prog w' = .ok (.string (putT s k b)) w' ∧ Below W3.heap.size W3 w')) (by kernel_rfl) (by exact ⟨HCV.out _ (Below.refl _ _).drew, (Below.refl _ _).drew⟩) (fun hHeld => ?_)
  refine takeH (i := 0) (d := (some 54)) (v := ?_) rfl rfl (by kernel_rfl) (by kernel_rfl) (by kernel_rfl) (fun _ _ _ h => h) (by kernel_rfl) ?_ (by assumption) ?_
  rotate_left
  · (intro w hSw; (try dsimp only at hSw); go_simp; try with_reducible rfl)
  try simp only [Act.put, List.setIfInBounds_toArray, List.set_cons_succ, List.set_cons_zero]
  refine takeH (i := 1) (d := (some 55)) (v := ?_) rfl rfl (by kernel_rfl) (by kernel_rfl) (by kernel_rfl) (fun _ _ _ h => h) (by kernel_rfl) ?_ (by assumption) ?_
  rotate_left
  · (intro w hSw; (try dsimp only at hSw); go_simp; try with_reducible rfl)
  try simp only [Act.put, List.setIfInBounds_toArray, List.set_cons_succ, List.set_cons_zero]
  refine takeH (i := 2) (d := (some 56)) (v := ?_) rfl rfl (by kernel_rfl) (by kernel_rfl) (by kernel_rfl) (fun _ _ _ h => h) (by kernel_rfl) ?_ (by assumption) ?_
  rotate_left
  · (intro w hSw; (try dsimp only at hSw); go_simp; try with_reducible rfl)
  try simp only [Act.put, List.setIfInBounds_toArray, List.set_cons_succ, List.set_cons_zero]
  refine takeH (i := 3) (d := (some 57)) (v := ?_) rfl rfl (by kernel_rfl) (by kernel_rfl) (by kernel_rfl) (fun _ _ _ h => h) (by kernel_rfl) ?_ (by assumption) ?_
  rotate_left
  · (intro w hSw; (try dsimp only at hSw); go_simp; try with_reducible rfl)
  try simp only [Act.put, List.setIfInBounds_toArray, List.set_cons_succ, List.set_cons_zero]
  refine wpAnyH_ready (rs := [4]) (by kernel_rfl) (by simp) ?_
  refine AllReadyH.cons rfl (fun K hK => ?_) AllReadyH.nil
  go_simp
  refine (implBitGet_any _ _ _).mono ?_; rintro e w4 ⟨rfl, hb4⟩
  refine hK.out _ _ ?_ (fun hHeld => ?_)
  · exact ⟨HCV.out _ (hHeld.2.trans (hb4.mono hHeld.2.size)), hHeld.2.trans (hb4.mono hHeld.2.size)⟩
  clear hK K
  try simp only [Act.put, List.setIfInBounds_toArray, List.set_cons_succ, List.set_cons_zero]
  refine takeH (i := 5) (d := (some 6)) (v := ?_) rfl rfl (by kernel_rfl) (by kernel_rfl) (by kernel_rfl) (fun _ _ _ h => h) (by kernel_rfl) ?_ (by assumption) ?_
  rotate_left
  · (intro w hSw; (try dsimp only at hSw); go_simp; try with_reducible rfl)
  try simp only [Act.put, List.setIfInBounds_toArray, List.set_cons_succ, List.set_cons_zero]
  refine takeH (i := 6) (d := (some 7)) (v := ?_) rfl rfl (by kernel_rfl) (by kernel_rfl) (by kernel_rfl) (fun _ _ _ h => h) (by kernel_rfl) ?_ (by assumption) ?_
  rotate_left
  · (intro w hSw; (try dsimp only at hSw); go_simp; try with_reducible rfl)
  try simp only [Act.put, List.setIfInBounds_toArray, List.set_cons_succ, List.set_cons_zero]
  refine takeH (i := 7) (d := (some 8)) (v := ?_) rfl rfl (by kernel_rfl) (by kernel_rfl) (by kernel_rfl) (fun _ _ _ h => h) (by kernel_rfl) ?_ (by assumption) ?_
  rotate_left
  · (intro w hSw; (try dsimp only at hSw); go_simp; try with_reducible rfl)
  try simp only [Act.put, List.setIfInBounds_toArray, List.set_cons_succ, List.set_cons_zero]
  refine wpAnyH_done (by kernel_rfl) ?_ _
  have HB4 : Hid (Below w.heap.size w w4) := HB3.out.trans (hHeld.2.mono HB3.out.size)
  clear hHeld hb4
  go_wp2_with fail
  go_ret3
  exact ⟨by rw [HG.out]; rfl, HB4.out⟩
/-- where the place or the bit is none -/
def putB (s : ByteArray) (a b : Int) : Bool := bplB s a && (decide (b = 0) || decide (b = 1))
def putX (s : ByteArray) (a b : Int) : ByteArray := if putB s a b = true then putT s a.toNat b.toNat else s
def putW (s : ByteArray) (a b : Int) : Int := if putB s a b = true then (bit s a.toNat : Int) else 0
theorem put_cases (s : ByteArray) (a b : Int) (h : putB s a b = true) : s.size ≤ 40 ∧ ∃ k c : Nat, a = (k : Int) ∧ b = (c : Int) ∧ k < 320 ∧ c < 2 := by
  unfold putB bplB at h
  simp only [Bool.and_eq_true, decide_eq_true_eq, Bool.or_eq_true] at h
  exact ⟨by omega, a.toNat, b.toNat, by omega, by omega, by omega, by omega⟩
set_option maxRecDepth 100000 in
set_option maxHeartbeats 4000000 in
theorem implPut_no (s : ByteArray) (a b : Int) (h : putB s a b = false) (w : World) :
    Calls Try.prog 7 #[.string s, .int .i64 a, .int .i64 b] w fun e w' => e = .returned (.tuple #[.string s, .int .i64 0, .bool false]) ∧ Below w.heap.size w w' := by
  cases hp : bplB s a with
  | false =>
    go_enter Try.func7, Try.ntmps7
    go_wp2_with (go_at_call 20; refine (bitPlaceOk_any _ _ _).mono ?_; rw [hp]; rintro e w' ⟨rfl, rfl⟩)
    go_ret3
    exact ⟨rfl, Below.refl _ _⟩
  | true =>
    have hbo : (decide (b = 0) || decide (b = 1)) = false := by unfold putB at h; rw [hp, Bool.true_and] at h; exact h
    go_enter Try.func7, Try.ntmps7
    go_wp2_with (first | (go_at_call 20; refine (bitPlaceOk_any _ _ _).mono ?_; rw [hp]; rintro e w' ⟨rfl, rfl⟩) | (go_at_call 21; refine (bitOk_any _ _).mono ?_; rw [hbo]; rintro e w' ⟨rfl, rfl⟩))
    go_ret3
    exact ⟨rfl, Below.refl _ _⟩
theorem implPut_any (s : ByteArray) (a b : Int) (w : World) :
    Calls Try.prog 7 #[.string s, .int .i64 a, .int .i64 b] w fun e w' => e = .returned (.tuple #[.string (putX s a b), .int .i64 (putW s a b), .bool (putB s a b)]) ∧ Below w.heap.size w w' := by
  unfold putX putW
  cases h : putB s a b with
  | false =>
    rw [if_neg (by simp), if_neg (by simp)]
    exact implPut_no s a b h w
  | true =>
    obtain ⟨hs, k, c, rfl, rfl, hk, hc⟩ := put_cases s a b h
    rw [if_pos rfl, if_pos rfl]
    exact implPut_in s k c hs hk hc w
end Go.Proofs.Ytnpkegmkmhambaa
