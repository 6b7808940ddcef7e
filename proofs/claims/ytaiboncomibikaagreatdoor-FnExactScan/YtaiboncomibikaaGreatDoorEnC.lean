/- Whether an entry is ok, the program's. -/
import Derived.Test.YtaiboncomibikaaGreatDoorEnB
import Derived.Test.YtaiboncomibikaaGreatDoorTk
import Derived.Test.YtaiboncomibikaaGreatDoorScE
import Derived.Test.YtaiboncomibikaaGreatDoorPrE
namespace Go.Proofs.YtaiboncomibikaaGreatDoor
open Go.RowKit
set_option linter.unusedVariables false

set_option maxHeartbeats 1000000 in
theorem keyOk_any (s : ByteArray) (w : World) (hs : s.size ≤ 1048576) : Calls Tryz.prog 64 #[.string s] w fun e w' => e = .returned (.bool (keyOkB s)) ∧ w = w' := by
  go_enter Tryz.func64, Tryz.ntmps64
  go_wp2_with fail
  all_goals go_ret
  all_goals exact ⟨ret_bool (by unfold keyOkB; rw [Bool.eq_iff_iff]; simp; omega), rfl⟩
set_option maxHeartbeats 1000000 in
theorem entrySize_any (e : Ent) (al as_ af : Option Addr) (cl cs cf : Nat) (w : World) (hs : EnSmall e) (ht : e.text.size ≤ 1048576) :
    Calls Tryz.prog 66 #[enV e (.slice al e.list.length cl) (.slice as_ e.scores.length cs) (.slice af e.fields.length cf)] w fun x w' => x = .returned (.int .i64 ((e.text.size : Int) + (e.list.length : Int) + (e.scores.length : Int) + (e.fields.length : Int))) ∧ Below w.heap.size w w' := by
  have h1 := hs.list
  have h2 := hs.scores
  have h3 := hs.fields
  go_enter Tryz.func66, Tryz.ntmps66
  go_wp2_with fail
  go_ret
  exact ⟨rfl, (Below.refl _ w).alloc (Nat.le_refl _) _⟩
/-- the box of an entry, behind what is done -/
def EnBox (w w1 : World) (e : Ent) (vl vs vf : Value) (w' : World) : Prop :=
  Below w1.heap.size w1 w' ∧ w'.cell? ⟨w.heap.size, 0, none⟩ = some (.string e.key) ∧ w'.cell? ⟨w.heap.size, 1, none⟩ = some (.int .i64 e.til) ∧ w'.cell? ⟨w.heap.size, 2, none⟩ = some (.int .i64 e.kind) ∧ w'.cell? ⟨w.heap.size, 3, none⟩ = some (.string e.text) ∧ w'.cell? ⟨w.heap.size, 4, none⟩ = some vl ∧ w'.cell? ⟨w.heap.size, 5, none⟩ = some vs ∧ w'.cell? ⟨w.heap.size, 6, none⟩ = some vf
theorem enBox_of {w w1 w' : World} {e : Ent} {vl vs vf : Value} (h : Box7 w1 w.heap.size (.string e.key) (.int .i64 e.til) (.int .i64 e.kind) (.string e.text) vl vs vf) (hlt : w.heap.size < w1.heap.size) (hb : Below w1.heap.size w1 w') : EnBox w w1 e vl vs vf w' := by
  have := box7_below h hb hlt
  exact ⟨hb, this.c0, this.c1, this.c2, this.c3, this.c4, this.c5, this.c6⟩
theorem enBox_below {w w1 w' : World} {e : Ent} {vl vs vf : Value} (h : EnBox w w1 e vl vs vf w') : Below w1.heap.size w1 w' := h.1
/-- whether what stands there fits -/
def fitB (e : Ent) : Bool :=
  if e.kind = 1 then decide (e.text.size ≤ 40)
  else if e.kind = 2 then decide (0 < e.list.length) && okB e.list
  else if e.kind = 3 then decide (0 < e.list.length) && setB e.list
  else if e.kind = 4 then decide (0 < e.scores.length) && scOkB e.scores
  else if e.kind = 5 then decide (0 < e.fields.length) && prOkB e.fields
  else false
def sizeK (e : Ent) : Int :=
  if e.kind = 1 then (e.text.size : Int) else if e.kind = 2 then (e.list.length : Int) else if e.kind = 3 then (e.list.length : Int) else if e.kind = 4 then (e.scores.length : Int) else (e.fields.length : Int)
def sizeAll (e : Ent) : Int := (e.text.size : Int) + (e.list.length : Int) + (e.scores.length : Int) + (e.fields.length : Int)
theorem nil_of {α : Type} {l : List α} (h : l.length = 0) : l = [] := List.length_eq_zero_iff.1 h
theorem text_nil {s : ByteArray} : s.toList = [] ↔ s.size = 0 := by
  rw [Lib.toList_data]
  constructor
  · intro h; have := congrArg List.length h; simpa using this
  · intro h; exact List.length_eq_zero_iff.1 (by simpa using h)
theorem len_nil {α : Type} {l : List α} : l = [] ↔ l.length = 0 := List.length_eq_zero_iff.symm
theorem fitP1 (a b c d : Nat) : (decide (a ≤ 40) && decide (b = 0) && decide (c = 0) && decide (d = 0)) = (decide (a ≤ 40) && decide ((a : Int) = (a : Int) + (b : Int) + (c : Int) + (d : Int))) := by
  rw [Bool.eq_iff_iff]; simp only [Bool.and_eq_true, decide_eq_true_eq]; omega
theorem fitP2 (a b c d : Nat) (t : Bool) : (decide (a = 0) && !decide (b = 0) && t && decide (c = 0) && decide (d = 0)) = (decide (0 < b) && t && decide ((b : Int) = (a : Int) + (b : Int) + (c : Int) + (d : Int))) := by
  cases t
  · simp
  · rw [Bool.and_true, Bool.and_true, Bool.eq_iff_iff]; simp only [Bool.and_eq_true, Bool.not_eq_true', decide_eq_false_iff_not, decide_eq_true_eq]; omega
theorem fitP4 (a b c d : Nat) (t : Bool) : (decide (a = 0) && decide (b = 0) && !decide (c = 0) && t && decide (d = 0)) = (decide (0 < c) && t && decide ((c : Int) = (a : Int) + (b : Int) + (c : Int) + (d : Int))) := by
  cases t
  · simp
  · rw [Bool.and_true, Bool.and_true, Bool.eq_iff_iff]; simp only [Bool.and_eq_true, Bool.not_eq_true', decide_eq_false_iff_not, decide_eq_true_eq]; omega
theorem fitP5 (a b c d : Nat) (t : Bool) : (decide (a = 0) && decide (b = 0) && decide (c = 0) && !decide (d = 0) && t) = (decide (0 < d) && t && decide ((d : Int) = (a : Int) + (b : Int) + (c : Int) + (d : Int))) := by
  cases t
  · simp
  · rw [Bool.and_true, Bool.and_true, Bool.eq_iff_iff]; simp only [Bool.and_eq_true, Bool.not_eq_true', decide_eq_false_iff_not, decide_eq_true_eq]; omega
theorem dText (s : ByteArray) : decide (s.toList = []) = decide (s.size = 0) := by
  rw [Bool.eq_iff_iff, decide_eq_true_eq, decide_eq_true_eq]; exact text_nil
theorem dSc (l : List (ByteArray × Int)) : decide (l = []) = decide (l.length = 0) := by
  rw [Bool.eq_iff_iff, decide_eq_true_eq, decide_eq_true_eq]; exact len_nil
theorem dPr (l : List (ByteArray × ByteArray)) : decide (l = []) = decide (l.length = 0) := by
  rw [Bool.eq_iff_iff, decide_eq_true_eq, decide_eq_true_eq]; exact len_nil
theorem dLi (l : List ByteArray) : decide (l = []) = decide (l.length = 0) := by
  rw [Bool.eq_iff_iff, decide_eq_true_eq, decide_eq_true_eq]; exact len_nil
/-- what fits and is all that there is: that is what its kind has, and nothing else -/
theorem held_fit (e : Ent) (h : 1 ≤ e.kind ∧ e.kind ≤ 5) : heldOkB e = (fitB e && decide (sizeK e = sizeAll e)) := by
  have h1 : e.kind = 1 ∨ e.kind = 2 ∨ e.kind = 3 ∨ e.kind = 4 ∨ e.kind = 5 := by omega
  unfold fitB sizeK sizeAll
  rcases h1 with h1 | h1 | h1 | h1 | h1
  · rw [held1 h1, h1, dSc, dPr, dLi]; exact fitP1 _ _ _ _
  · rw [held2 h1, h1, dText, dSc, dPr, dLi]; exact fitP2 _ _ _ _ _
  · rw [held3 h1, h1, dText, dSc, dPr, dLi]; exact fitP2 _ _ _ _ _
  · rw [held4 h1, h1, dText, dSc, dPr, dLi]; exact fitP4 _ _ _ _ _
  · rw [held5 h1, h1, dText, dSc, dPr, dLi]; exact fitP5 _ _ _ _ _
set_option maxHeartbeats 1000000 in
theorem heldIn_1 (e : Ent) (al as_ af : Option Addr) (cl cs cf : Nat) (w : World) (hk : e.kind = 1) :
    Calls Tryz.prog 65 #[enV e (.slice al e.list.length cl) (.slice as_ e.scores.length cs) (.slice af e.fields.length cf)] w fun x w' => x = .returned (.tuple #[.iface 110 (.string e.text), .bool true]) ∧ Below w.heap.size w w' := by
  go_enter Tryz.func65, Tryz.ntmps65
  go_wp2_with fail
  go_ret2
  exact ⟨rfl, (Below.refl _ w).alloc (Nat.le_refl _) _⟩
theorem isFits_1 (v : Value) (w : World) : (method 251 110 v "loop.example/quincunx/impl.fits").run Tryz.prog w = .ok (97, v) w := by kernel_rfl
theorem isSize_1 (v : Value) (w : World) : (method 251 110 v "loop.example/quincunx/impl.size").run Tryz.prog w = .ok (98, v) w := by kernel_rfl
set_option maxHeartbeats 1000000 in
theorem size_1 (e : Ent) (al as_ af : Option Addr) (cl cs cf : Nat) (w : World) (hk : e.kind = 1) :
    Calls Tryz.prog 98 #[.string e.text] w fun x w' => x = .returned (.int .i64 (sizeK e)) ∧ w = w' := by
  have HK : Hid (sizeK e = (e.text.size : Int)) := by show _ = _; unfold sizeK; rw [hk]; rfl
  clear hk
  go_enter Tryz.func98, Tryz.ntmps98
  go_wp2_with fail
  go_ret
  exact ⟨ret_int' HK.out.symm, rfl⟩
set_option maxHeartbeats 1000000 in
theorem fits_1 (e : Ent) (al as_ af : Option Addr) (cl cs cf : Nat) (w : World) (hr : EnReads w (.slice al e.list.length cl) (.slice as_ e.scores.length cs) (.slice af e.fields.length cf) e) (hs : EnSmall e) (hk : e.kind = 1) :
    Calls Tryz.prog 97 #[.string e.text] w fun x w' => x = .returned (.bool (fitB e)) ∧ Below w.heap.size w w' := by
  have HK : Hid (fitB e = decide (e.text.size ≤ 40)) := by show _ = _; unfold fitB; rw [hk]; rfl
  clear hk
  go_enter Tryz.func97, Tryz.ntmps97
  go_wp2_with fail
  go_ret
  exact ⟨ret_bool (by rw [HK.out]; simp; omega), Below.refl _ _⟩
set_option maxHeartbeats 8000000 in
set_option maxRecDepth 100000 in
theorem implEntryOk_1 (e : Ent) (vl vs vf : Value) (w : World) (hr : EnReads w vl vs vf e) (hs : EnSmall e) (hy : e.key.size ≤ 1048576) (ht : e.text.size ≤ 1048576) (hK : keyOkB e.key = true) (hT : tilOkB e.til = true) (hk : e.kind = 1) :
    Calls Tryz.prog 45 #[enV e vl vs vf] w fun x w' => x = .returned (.bool (heldOkB e)) ∧ Below w.heap.size w w' := by
  obtain ⟨al, cl, as_, cs, af, cf, rfl, rfl, rfl⟩ := enReads_shape hr
  have hT1 : 0 ≤ e.til ∧ e.til ≤ 2000000 := by unfold tilOkB at hT; simpa using hT
  obtain ⟨t1, t2⟩ := hT1
  clear hT
  have HH : Hid _ := held_fit e (by omega)
  have HK : Hid (e.kind = 1) := hk
  clear hk
  go_enter Tryz.func45, Tryz.ntmps45
  go_wp2_with (first | (go_at_call 64; refine (keyOk_any _ _ hy).mono ?_; rw [hK]; rintro e w' ⟨rfl, rfl⟩) | (go_at_call 65; refine (heldIn_1 e _ _ _ _ _ _ _ HK.out).mono ?_; rintro x w1 ⟨rfl, hb1⟩))
  have hB0 : Below w.heap.size w (w.alloc (.cells #[.string e.key, .int .i64 e.til, .int .i64 e.kind, .string e.text, .slice al e.list.length cl, .slice as_ e.scores.length cs, .slice af e.fields.length cf] 43)) := (Below.refl _ w).alloc (Nat.le_refl _) _
  have hB1 := hB0.trans (hb1.mono hB0.size)
  have hx := box7_row ((hb1.block w.heap.size (by simp)).trans (heap_alloc_new _ _))
  have hlt : w.heap.size < w1.heap.size := Nat.lt_of_lt_of_le (by simp) hb1.size
  have HS : Hid (∀ w', Below w1.heap.size w1 w' → EnBox w w1 e (.slice al e.list.length cl) (.slice as_ e.scores.length cs) (.slice af e.fields.length cf) w') := fun w' h => enBox_of hx hlt h
  have HR1 : Hid (∀ w', Below w1.heap.size w1 w' → EnReads w' (.slice al e.list.length cl) (.slice as_ e.scores.length cs) (.slice af e.fields.length cf) e) := fun w' h => enReads_kept (enReads_kept hr hB1) h
  clear hx hb1 hB0 hr
  have hmF := isFits_1 (.string e.text)
  have hmS := isSize_1 (.string e.text)
  cases hF : fitB e with
  | false =>
    refine wp_region_held_drew (S := (fun w' => Below w1.heap.size w1 w' ∧ w'.cell? ⟨w.heap.size, 0, none⟩ = some (.string e.key) ∧ w'.cell? ⟨w.heap.size, 1, none⟩ = some (.int .i64 e.til) ∧ w'.cell? ⟨w.heap.size, 2, none⟩ = some (.int .i64 e.kind) ∧ w'.cell? ⟨w.heap.size, 3, none⟩ = some (.string e.text) ∧ w'.cell? ⟨w.heap.size, 4, none⟩ = some (.slice al e.list.length cl) ∧ w'.cell? ⟨w.heap.size, 5, none⟩ = some (.slice as_ e.scores.length cs) ∧ w'.cell? ⟨w.heap.size, 6, none⟩ = some (.slice af e.fields.length cf))) (by kernel_rfl) (by exact HS.out _ (Below.refl _ _).drew) (fun hHeld => ?_)
    refine takeH (i := 0) (d := (some 24)) (v := ?_) rfl rfl (by kernel_rfl) (by kernel_rfl) (by kernel_rfl) (fun _ _ _ h => h) (by kernel_rfl) ?_ (by assumption) ?_
    rotate_left
    · (intro w hSw; (try dsimp only at hSw); go_simp; try with_reducible rfl)
    try simp only [Act.put, List.setIfInBounds_toArray, List.set_cons_succ, List.set_cons_zero]
    refine takeH (i := 1) (d := (some 25)) (v := ?_) rfl rfl (by kernel_rfl) (by kernel_rfl) (by kernel_rfl) (fun _ _ _ h => h) (by kernel_rfl) ?_ (by assumption) ?_
    rotate_left
    · (intro w hSw; (try dsimp only at hSw); go_simp; try with_reducible rfl)
    try simp only [Act.put, List.setIfInBounds_toArray, List.set_cons_succ, List.set_cons_zero]
    refine takeH (i := 2) (d := (some 26)) (v := ?_) rfl rfl (by kernel_rfl) (by kernel_rfl) (by kernel_rfl) (fun _ _ _ h => h) (by kernel_rfl) ?_ (by assumption) ?_
    rotate_left
    · (intro w hSw; (try dsimp only at hSw); go_simp; try with_reducible rfl)
    try simp only [Act.put, List.setIfInBounds_toArray, List.set_cons_succ, List.set_cons_zero]
    refine wpAnyH_ready (rs := [3]) (by kernel_rfl) (by simp) ?_
    refine AllReadyH.cons rfl (fun K hK => ?_) AllReadyH.nil
    go_simp
    refine (fits_1 e al as_ af cl cs cf _ (HR1.out _ (enBox_below hHeld)) hs HK.out).mono ?_; rintro x w3 ⟨he, hb3⟩; rw [hF] at he; subst he; have hk3 := HS.out _ ((enBox_below hHeld).trans (hb3.mono (enBox_below hHeld).size)); clear hb3
    refine hK.out _ _ ?_ (fun hHeld => ?_)
    · exact hk3
    clear hK K
    try simp only [Act.put, List.setIfInBounds_toArray, List.set_cons_succ, List.set_cons_zero]
    refine takeH (i := 4) (d := (some 28)) (v := ?_) rfl rfl (by kernel_rfl) (by kernel_rfl) (by kernel_rfl) (fun _ _ _ h => h) (by kernel_rfl) ?_ (by assumption) ?_
    rotate_left
    · (intro w hSw; (try dsimp only at hSw); go_simp; try with_reducible rfl)
    try simp only [Act.put, List.setIfInBounds_toArray, List.set_cons_succ, List.set_cons_zero]
    refine takeH (i := 5) (d := (some 29)) (v := ?_) rfl rfl (by kernel_rfl) (by kernel_rfl) (by kernel_rfl) (fun _ _ _ h => h) (by kernel_rfl) ?_ (by assumption) ?_
    rotate_left
    · (intro w hSw; (try dsimp only at hSw); go_simp; try with_reducible rfl)
    try simp only [Act.put, List.setIfInBounds_toArray, List.set_cons_succ, List.set_cons_zero]
    refine skipH (i := 6) (d := (some 30)) rfl rfl (by kernel_rfl) (by kernel_rfl) (by kernel_rfl) (fun _ _ _ h => h) (by kernel_rfl) (by assumption) ?_
    try simp only [Act.put, List.setIfInBounds_toArray, List.set_cons_succ, List.set_cons_zero]
    refine skipH (i := 7) (d := (some 31)) rfl rfl (by kernel_rfl) (by kernel_rfl) (by kernel_rfl) (fun _ _ _ h => h) (by kernel_rfl) (by assumption) ?_
    try simp only [Act.put, List.setIfInBounds_toArray, List.set_cons_succ, List.set_cons_zero]
    refine skipH (i := 8) (d := (some 32)) rfl rfl (by kernel_rfl) (by kernel_rfl) (by kernel_rfl) (fun _ _ _ h => h) (by kernel_rfl) (by assumption) ?_
    try simp only [Act.put, List.setIfInBounds_toArray, List.set_cons_succ, List.set_cons_zero]
    refine skipH (i := 9) (d := (some 33)) rfl rfl (by kernel_rfl) (by kernel_rfl) (by kernel_rfl) (fun _ _ _ h => h) (by kernel_rfl) (by assumption) ?_
    try simp only [Act.put, List.setIfInBounds_toArray, List.set_cons_succ, List.set_cons_zero]
    refine skipH (i := 10) (d := (some 34)) rfl rfl (by kernel_rfl) (by kernel_rfl) (by kernel_rfl) (fun _ _ _ h => h) (by kernel_rfl) (by assumption) ?_
    try simp only [Act.put, List.setIfInBounds_toArray, List.set_cons_succ, List.set_cons_zero]
    refine takeH (i := 11) (d := (some 35)) (v := ?_) rfl rfl (by kernel_rfl) (by kernel_rfl) (by kernel_rfl) (fun _ _ _ h => h) (by kernel_rfl) ?_ (by assumption) ?_
    rotate_left
    · (intro w hSw; (try dsimp only at hSw); go_simp; try with_reducible rfl)
    try simp only [Act.put, List.setIfInBounds_toArray, List.set_cons_succ, List.set_cons_zero]
    refine takeH (i := 12) (d := (some 2)) (v := ?_) rfl rfl (by kernel_rfl) (by kernel_rfl) (by kernel_rfl) (fun _ _ _ h => h) (by kernel_rfl) ?_ (by assumption) ?_
    rotate_left
    · (intro w hSw; (try dsimp only at hSw); go_simp; try with_reducible rfl)
    try simp only [Act.put, List.setIfInBounds_toArray, List.set_cons_succ, List.set_cons_zero]
    refine wpAnyH_done (by kernel_rfl) ?_ _
    have hB3 := enBox_below hk3
    clear hk3 hmF hmS
    go_wp2_with fail
    go_ret
    exact ⟨ret_bool (by rw [HH.out, hF]; rfl), hB1.trans (hB3.mono hB1.size)⟩
  | true =>
    refine wp_region_held_drew (S := (fun w' => Below w1.heap.size w1 w' ∧ w'.cell? ⟨w.heap.size, 0, none⟩ = some (.string e.key) ∧ w'.cell? ⟨w.heap.size, 1, none⟩ = some (.int .i64 e.til) ∧ w'.cell? ⟨w.heap.size, 2, none⟩ = some (.int .i64 e.kind) ∧ w'.cell? ⟨w.heap.size, 3, none⟩ = some (.string e.text) ∧ w'.cell? ⟨w.heap.size, 4, none⟩ = some (.slice al e.list.length cl) ∧ w'.cell? ⟨w.heap.size, 5, none⟩ = some (.slice as_ e.scores.length cs) ∧ w'.cell? ⟨w.heap.size, 6, none⟩ = some (.slice af e.fields.length cf))) (by kernel_rfl) (by exact HS.out _ (Below.refl _ _).drew) (fun hHeld => ?_)
    refine takeH (i := 0) (d := (some 24)) (v := ?_) rfl rfl (by kernel_rfl) (by kernel_rfl) (by kernel_rfl) (fun _ _ _ h => h) (by kernel_rfl) ?_ (by assumption) ?_
    rotate_left
    · (intro w hSw; (try dsimp only at hSw); go_simp; try with_reducible rfl)
    try simp only [Act.put, List.setIfInBounds_toArray, List.set_cons_succ, List.set_cons_zero]
    refine takeH (i := 1) (d := (some 25)) (v := ?_) rfl rfl (by kernel_rfl) (by kernel_rfl) (by kernel_rfl) (fun _ _ _ h => h) (by kernel_rfl) ?_ (by assumption) ?_
    rotate_left
    · (intro w hSw; (try dsimp only at hSw); go_simp; try with_reducible rfl)
    try simp only [Act.put, List.setIfInBounds_toArray, List.set_cons_succ, List.set_cons_zero]
    refine takeH (i := 2) (d := (some 26)) (v := ?_) rfl rfl (by kernel_rfl) (by kernel_rfl) (by kernel_rfl) (fun _ _ _ h => h) (by kernel_rfl) ?_ (by assumption) ?_
    rotate_left
    · (intro w hSw; (try dsimp only at hSw); go_simp; try with_reducible rfl)
    try simp only [Act.put, List.setIfInBounds_toArray, List.set_cons_succ, List.set_cons_zero]
    refine wpAnyH_ready (rs := [3]) (by kernel_rfl) (by simp) ?_
    refine AllReadyH.cons rfl (fun K hK => ?_) AllReadyH.nil
    go_simp
    refine (fits_1 e al as_ af cl cs cf _ (HR1.out _ (enBox_below hHeld)) hs HK.out).mono ?_; rintro x w3 ⟨he, hb3⟩; rw [hF] at he; subst he; have hk3 := HS.out _ ((enBox_below hHeld).trans (hb3.mono (enBox_below hHeld).size)); clear hb3
    refine hK.out _ _ ?_ (fun hHeld => ?_)
    · exact hk3
    clear hK K
    try simp only [Act.put, List.setIfInBounds_toArray, List.set_cons_succ, List.set_cons_zero]
    refine takeH (i := 4) (d := (some 28)) (v := ?_) rfl rfl (by kernel_rfl) (by kernel_rfl) (by kernel_rfl) (fun _ _ _ h => h) (by kernel_rfl) ?_ (by assumption) ?_
    rotate_left
    · (intro w hSw; (try dsimp only at hSw); go_simp; try with_reducible rfl)
    try simp only [Act.put, List.setIfInBounds_toArray, List.set_cons_succ, List.set_cons_zero]
    refine takeH (i := 5) (d := (some 29)) (v := ?_) rfl rfl (by kernel_rfl) (by kernel_rfl) (by kernel_rfl) (fun _ _ _ h => h) (by kernel_rfl) ?_ (by assumption) ?_
    rotate_left
    · (intro w hSw; (try dsimp only at hSw); go_simp; try with_reducible rfl)
    try simp only [Act.put, List.setIfInBounds_toArray, List.set_cons_succ, List.set_cons_zero]
    refine takeH (i := 6) (d := (some 30)) (v := ?_) rfl rfl (by kernel_rfl) (by kernel_rfl) (by kernel_rfl) (fun _ _ _ h => h) (by kernel_rfl) ?_ (by assumption) ?_
    rotate_left
    · (intro w hSw; (try dsimp only at hSw); go_simp; try with_reducible rfl)
    try simp only [Act.put, List.setIfInBounds_toArray, List.set_cons_succ, List.set_cons_zero]
    refine takeH (i := 8) (d := (some 32)) (v := ?_) rfl rfl (by kernel_rfl) (by kernel_rfl) (by kernel_rfl) (fun _ _ _ h => h) (by kernel_rfl) ?_ (by assumption) ?_
    rotate_left
    · (intro w hSw; (try dsimp only at hSw); go_simp; try with_reducible rfl)
    try simp only [Act.put, List.setIfInBounds_toArray, List.set_cons_succ, List.set_cons_zero]
    refine wpAnyH_ready (rs := [7]) (by kernel_rfl) (by simp) ?_
    refine AllReadyH.cons rfl (fun K hK => ?_) AllReadyH.nil
    go_simp
    refine (size_1 e al as_ af cl cs cf _ HK.out).mono ?_; rintro x w4 ⟨he, rfl⟩; subst he
    refine hK.out _ _ ?_ (fun hHeld => ?_)
    · exact hHeld
    clear hK K
    try simp only [Act.put, List.setIfInBounds_toArray, List.set_cons_succ, List.set_cons_zero]
    refine wpAnyH_ready (rs := [9]) (by kernel_rfl) (by simp) ?_
    refine AllReadyH.cons rfl (fun K hK => ?_) AllReadyH.nil
    go_simp
    refine (entrySize_any e al as_ af cl cs cf _ hs ht).mono ?_; rintro x w4 ⟨he, hb4⟩; subst he; have hk4 := HS.out _ ((enBox_below hHeld).trans (hb4.mono (enBox_below hHeld).size)); clear hb4
    refine hK.out _ _ ?_ (fun hHeld => ?_)
    · exact hk4
    clear hK K
    try simp only [Act.put, List.setIfInBounds_toArray, List.set_cons_succ, List.set_cons_zero]
    refine takeH (i := 10) (d := (some 34)) (v := ?_) rfl rfl (by kernel_rfl) (by kernel_rfl) (by kernel_rfl) (fun _ _ _ h => h) (by kernel_rfl) ?_ (by assumption) ?_
    rotate_left
    · (intro w hSw; (try dsimp only at hSw); go_simp; try with_reducible rfl)
    try simp only [Act.put, List.setIfInBounds_toArray, List.set_cons_succ, List.set_cons_zero]
    refine takeH (i := 11) (d := (some 35)) (v := ?_) rfl rfl (by kernel_rfl) (by kernel_rfl) (by kernel_rfl) (fun _ _ _ h => h) (by kernel_rfl) ?_ (by assumption) ?_
    rotate_left
    · (intro w hSw; (try dsimp only at hSw); go_simp; try with_reducible rfl)
    try simp only [Act.put, List.setIfInBounds_toArray, List.set_cons_succ, List.set_cons_zero]
    refine takeH (i := 12) (d := (some 2)) (v := ?_) rfl rfl (by kernel_rfl) (by kernel_rfl) (by kernel_rfl) (fun _ _ _ h => h) (by kernel_rfl) ?_ (by assumption) ?_
    rotate_left
    · (intro w hSw; (try dsimp only at hSw); go_simp; try with_reducible rfl)
    try simp only [Act.put, List.setIfInBounds_toArray, List.set_cons_succ, List.set_cons_zero]
    refine wpAnyH_done (by kernel_rfl) ?_ _
    have hB3 := enBox_below hk4
    clear hk4 hmF hmS
    go_wp2_with fail
    go_ret
    exact ⟨ret_bool (by rw [HH.out, hF, Bool.true_and]; unfold sizeAll; rw [Bool.eq_iff_iff]; simp), hB1.trans (hB3.mono hB1.size)⟩
set_option maxHeartbeats 1000000 in
theorem heldIn_2 (e : Ent) (al as_ af : Option Addr) (cl cs cf : Nat) (w : World) (hk : e.kind = 2) :
    Calls Tryz.prog 65 #[enV e (.slice al e.list.length cl) (.slice as_ e.scores.length cs) (.slice af e.fields.length cf)] w fun x w' => x = .returned (.tuple #[.iface 111 (.slice al e.list.length cl), .bool true]) ∧ Below w.heap.size w w' := by
  go_enter Tryz.func65, Tryz.ntmps65
  go_wp2_with fail
  go_ret2
  exact ⟨rfl, (Below.refl _ w).alloc (Nat.le_refl _) _⟩
theorem isFits_2 (v : Value) (w : World) : (method 251 111 v "loop.example/quincunx/impl.fits").run Tryz.prog w = .ok (99, v) w := by kernel_rfl
theorem isSize_2 (v : Value) (w : World) : (method 251 111 v "loop.example/quincunx/impl.size").run Tryz.prog w = .ok (100, v) w := by kernel_rfl
set_option maxHeartbeats 1000000 in
theorem size_2 (e : Ent) (al as_ af : Option Addr) (cl cs cf : Nat) (w : World) (hk : e.kind = 2) :
    Calls Tryz.prog 100 #[.slice al e.list.length cl] w fun x w' => x = .returned (.int .i64 (sizeK e)) ∧ w = w' := by
  have HK : Hid (sizeK e = (e.list.length : Int)) := by show _ = _; unfold sizeK; rw [hk]; rfl
  clear hk
  go_enter Tryz.func100, Tryz.ntmps100
  go_wp2_with fail
  go_ret
  exact ⟨ret_int' HK.out.symm, rfl⟩
set_option maxHeartbeats 1000000 in
theorem fits_2 (e : Ent) (al as_ af : Option Addr) (cl cs cf : Nat) (w : World) (hr : EnReads w (.slice al e.list.length cl) (.slice as_ e.scores.length cs) (.slice af e.fields.length cf) e) (hs : EnSmall e) (hk : e.kind = 2) :
    Calls Tryz.prog 99 #[.slice al e.list.length cl] w fun x w' => x = .returned (.bool (fitB e)) ∧ Below w.heap.size w w' := by
  have HK : Hid (fitB e = (decide (0 < e.list.length) && okB e.list)) := by show _ = _; unfold fitB; rw [hk]; rfl
  clear hk
  by_cases h0 : 0 < e.list.length
  · have h0' : (0 : Int) < (e.list.length : Int) := by omega
    go_enter Tryz.func99, Tryz.ntmps99
    go_wp2_with (go_at_call 101; refine (listOk_any (.slice al e.list.length cl) e.list _ hr.l hs.list).mono ?_; rintro x w' ⟨rfl, rfl⟩)
    go_ret
    exact ⟨ret_bool (by rw [HK.out]; simp [h0]), Below.refl _ _⟩
  · have h0' : ¬ (0 : Int) < (e.list.length : Int) := by omega
    go_enter Tryz.func99, Tryz.ntmps99
    go_wp2_with fail
    go_ret
    exact ⟨ret_bool (by rw [HK.out]; simp [h0]), Below.refl _ _⟩
set_option maxHeartbeats 8000000 in
set_option maxRecDepth 100000 in
theorem implEntryOk_2 (e : Ent) (vl vs vf : Value) (w : World) (hr : EnReads w vl vs vf e) (hs : EnSmall e) (hy : e.key.size ≤ 1048576) (ht : e.text.size ≤ 1048576) (hK : keyOkB e.key = true) (hT : tilOkB e.til = true) (hk : e.kind = 2) :
    Calls Tryz.prog 45 #[enV e vl vs vf] w fun x w' => x = .returned (.bool (heldOkB e)) ∧ Below w.heap.size w w' := by
  obtain ⟨al, cl, as_, cs, af, cf, rfl, rfl, rfl⟩ := enReads_shape hr
  have hT1 : 0 ≤ e.til ∧ e.til ≤ 2000000 := by unfold tilOkB at hT; simpa using hT
  obtain ⟨t1, t2⟩ := hT1
  clear hT
  have HH : Hid _ := held_fit e (by omega)
  have HK : Hid (e.kind = 2) := hk
  clear hk
  go_enter Tryz.func45, Tryz.ntmps45
  go_wp2_with (first | (go_at_call 64; refine (keyOk_any _ _ hy).mono ?_; rw [hK]; rintro e w' ⟨rfl, rfl⟩) | (go_at_call 65; refine (heldIn_2 e _ _ _ _ _ _ _ HK.out).mono ?_; rintro x w1 ⟨rfl, hb1⟩))
  have hB0 : Below w.heap.size w (w.alloc (.cells #[.string e.key, .int .i64 e.til, .int .i64 e.kind, .string e.text, .slice al e.list.length cl, .slice as_ e.scores.length cs, .slice af e.fields.length cf] 43)) := (Below.refl _ w).alloc (Nat.le_refl _) _
  have hB1 := hB0.trans (hb1.mono hB0.size)
  have hx := box7_row ((hb1.block w.heap.size (by simp)).trans (heap_alloc_new _ _))
  have hlt : w.heap.size < w1.heap.size := Nat.lt_of_lt_of_le (by simp) hb1.size
  have HS : Hid (∀ w', Below w1.heap.size w1 w' → EnBox w w1 e (.slice al e.list.length cl) (.slice as_ e.scores.length cs) (.slice af e.fields.length cf) w') := fun w' h => enBox_of hx hlt h
  have HR1 : Hid (∀ w', Below w1.heap.size w1 w' → EnReads w' (.slice al e.list.length cl) (.slice as_ e.scores.length cs) (.slice af e.fields.length cf) e) := fun w' h => enReads_kept (enReads_kept hr hB1) h
  clear hx hb1 hB0 hr
  have hmF := isFits_2 (.slice al e.list.length cl)
  have hmS := isSize_2 (.slice al e.list.length cl)
  cases hF : fitB e with
  | false =>
    refine wp_region_held_drew (S := (fun w' => Below w1.heap.size w1 w' ∧ w'.cell? ⟨w.heap.size, 0, none⟩ = some (.string e.key) ∧ w'.cell? ⟨w.heap.size, 1, none⟩ = some (.int .i64 e.til) ∧ w'.cell? ⟨w.heap.size, 2, none⟩ = some (.int .i64 e.kind) ∧ w'.cell? ⟨w.heap.size, 3, none⟩ = some (.string e.text) ∧ w'.cell? ⟨w.heap.size, 4, none⟩ = some (.slice al e.list.length cl) ∧ w'.cell? ⟨w.heap.size, 5, none⟩ = some (.slice as_ e.scores.length cs) ∧ w'.cell? ⟨w.heap.size, 6, none⟩ = some (.slice af e.fields.length cf))) (by kernel_rfl) (by exact HS.out _ (Below.refl _ _).drew) (fun hHeld => ?_)
    refine takeH (i := 0) (d := (some 24)) (v := ?_) rfl rfl (by kernel_rfl) (by kernel_rfl) (by kernel_rfl) (fun _ _ _ h => h) (by kernel_rfl) ?_ (by assumption) ?_
    rotate_left
    · (intro w hSw; (try dsimp only at hSw); go_simp; try with_reducible rfl)
    try simp only [Act.put, List.setIfInBounds_toArray, List.set_cons_succ, List.set_cons_zero]
    refine takeH (i := 1) (d := (some 25)) (v := ?_) rfl rfl (by kernel_rfl) (by kernel_rfl) (by kernel_rfl) (fun _ _ _ h => h) (by kernel_rfl) ?_ (by assumption) ?_
    rotate_left
    · (intro w hSw; (try dsimp only at hSw); go_simp; try with_reducible rfl)
    try simp only [Act.put, List.setIfInBounds_toArray, List.set_cons_succ, List.set_cons_zero]
    refine takeH (i := 2) (d := (some 26)) (v := ?_) rfl rfl (by kernel_rfl) (by kernel_rfl) (by kernel_rfl) (fun _ _ _ h => h) (by kernel_rfl) ?_ (by assumption) ?_
    rotate_left
    · (intro w hSw; (try dsimp only at hSw); go_simp; try with_reducible rfl)
    try simp only [Act.put, List.setIfInBounds_toArray, List.set_cons_succ, List.set_cons_zero]
    refine wpAnyH_ready (rs := [3]) (by kernel_rfl) (by simp) ?_
    refine AllReadyH.cons rfl (fun K hK => ?_) AllReadyH.nil
    go_simp
    refine (fits_2 e al as_ af cl cs cf _ (HR1.out _ (enBox_below hHeld)) hs HK.out).mono ?_; rintro x w3 ⟨he, hb3⟩; rw [hF] at he; subst he; have hk3 := HS.out _ ((enBox_below hHeld).trans (hb3.mono (enBox_below hHeld).size)); clear hb3
    refine hK.out _ _ ?_ (fun hHeld => ?_)
    · exact hk3
    clear hK K
    try simp only [Act.put, List.setIfInBounds_toArray, List.set_cons_succ, List.set_cons_zero]
    refine takeH (i := 4) (d := (some 28)) (v := ?_) rfl rfl (by kernel_rfl) (by kernel_rfl) (by kernel_rfl) (fun _ _ _ h => h) (by kernel_rfl) ?_ (by assumption) ?_
    rotate_left
    · (intro w hSw; (try dsimp only at hSw); go_simp; try with_reducible rfl)
    try simp only [Act.put, List.setIfInBounds_toArray, List.set_cons_succ, List.set_cons_zero]
    refine takeH (i := 5) (d := (some 29)) (v := ?_) rfl rfl (by kernel_rfl) (by kernel_rfl) (by kernel_rfl) (fun _ _ _ h => h) (by kernel_rfl) ?_ (by assumption) ?_
    rotate_left
    · (intro w hSw; (try dsimp only at hSw); go_simp; try with_reducible rfl)
    try simp only [Act.put, List.setIfInBounds_toArray, List.set_cons_succ, List.set_cons_zero]
    refine skipH (i := 6) (d := (some 30)) rfl rfl (by kernel_rfl) (by kernel_rfl) (by kernel_rfl) (fun _ _ _ h => h) (by kernel_rfl) (by assumption) ?_
    try simp only [Act.put, List.setIfInBounds_toArray, List.set_cons_succ, List.set_cons_zero]
    refine skipH (i := 7) (d := (some 31)) rfl rfl (by kernel_rfl) (by kernel_rfl) (by kernel_rfl) (fun _ _ _ h => h) (by kernel_rfl) (by assumption) ?_
    try simp only [Act.put, List.setIfInBounds_toArray, List.set_cons_succ, List.set_cons_zero]
    refine skipH (i := 8) (d := (some 32)) rfl rfl (by kernel_rfl) (by kernel_rfl) (by kernel_rfl) (fun _ _ _ h => h) (by kernel_rfl) (by assumption) ?_
    try simp only [Act.put, List.setIfInBounds_toArray, List.set_cons_succ, List.set_cons_zero]
    refine skipH (i := 9) (d := (some 33)) rfl rfl (by kernel_rfl) (by kernel_rfl) (by kernel_rfl) (fun _ _ _ h => h) (by kernel_rfl) (by assumption) ?_
    try simp only [Act.put, List.setIfInBounds_toArray, List.set_cons_succ, List.set_cons_zero]
    refine skipH (i := 10) (d := (some 34)) rfl rfl (by kernel_rfl) (by kernel_rfl) (by kernel_rfl) (fun _ _ _ h => h) (by kernel_rfl) (by assumption) ?_
    try simp only [Act.put, List.setIfInBounds_toArray, List.set_cons_succ, List.set_cons_zero]
    refine takeH (i := 11) (d := (some 35)) (v := ?_) rfl rfl (by kernel_rfl) (by kernel_rfl) (by kernel_rfl) (fun _ _ _ h => h) (by kernel_rfl) ?_ (by assumption) ?_
    rotate_left
    · (intro w hSw; (try dsimp only at hSw); go_simp; try with_reducible rfl)
    try simp only [Act.put, List.setIfInBounds_toArray, List.set_cons_succ, List.set_cons_zero]
    refine takeH (i := 12) (d := (some 2)) (v := ?_) rfl rfl (by kernel_rfl) (by kernel_rfl) (by kernel_rfl) (fun _ _ _ h => h) (by kernel_rfl) ?_ (by assumption) ?_
    rotate_left
    · (intro w hSw; (try dsimp only at hSw); go_simp; try with_reducible rfl)
    try simp only [Act.put, List.setIfInBounds_toArray, List.set_cons_succ, List.set_cons_zero]
    refine wpAnyH_done (by kernel_rfl) ?_ _
    have hB3 := enBox_below hk3
    clear hk3 hmF hmS
    go_wp2_with fail
    go_ret
    exact ⟨ret_bool (by rw [HH.out, hF]; rfl), hB1.trans (hB3.mono hB1.size)⟩
  | true =>
    refine wp_region_held_drew (S := (fun w' => Below w1.heap.size w1 w' ∧ w'.cell? ⟨w.heap.size, 0, none⟩ = some (.string e.key) ∧ w'.cell? ⟨w.heap.size, 1, none⟩ = some (.int .i64 e.til) ∧ w'.cell? ⟨w.heap.size, 2, none⟩ = some (.int .i64 e.kind) ∧ w'.cell? ⟨w.heap.size, 3, none⟩ = some (.string e.text) ∧ w'.cell? ⟨w.heap.size, 4, none⟩ = some (.slice al e.list.length cl) ∧ w'.cell? ⟨w.heap.size, 5, none⟩ = some (.slice as_ e.scores.length cs) ∧ w'.cell? ⟨w.heap.size, 6, none⟩ = some (.slice af e.fields.length cf))) (by kernel_rfl) (by exact HS.out _ (Below.refl _ _).drew) (fun hHeld => ?_)
    refine takeH (i := 0) (d := (some 24)) (v := ?_) rfl rfl (by kernel_rfl) (by kernel_rfl) (by kernel_rfl) (fun _ _ _ h => h) (by kernel_rfl) ?_ (by assumption) ?_
    rotate_left
    · (intro w hSw; (try dsimp only at hSw); go_simp; try with_reducible rfl)
    try simp only [Act.put, List.setIfInBounds_toArray, List.set_cons_succ, List.set_cons_zero]
    refine takeH (i := 1) (d := (some 25)) (v := ?_) rfl rfl (by kernel_rfl) (by kernel_rfl) (by kernel_rfl) (fun _ _ _ h => h) (by kernel_rfl) ?_ (by assumption) ?_
    rotate_left
    · (intro w hSw; (try dsimp only at hSw); go_simp; try with_reducible rfl)
    try simp only [Act.put, List.setIfInBounds_toArray, List.set_cons_succ, List.set_cons_zero]
    refine takeH (i := 2) (d := (some 26)) (v := ?_) rfl rfl (by kernel_rfl) (by kernel_rfl) (by kernel_rfl) (fun _ _ _ h => h) (by kernel_rfl) ?_ (by assumption) ?_
    rotate_left
    · (intro w hSw; (try dsimp only at hSw); go_simp; try with_reducible rfl)
    try simp only [Act.put, List.setIfInBounds_toArray, List.set_cons_succ, List.set_cons_zero]
    refine wpAnyH_ready (rs := [3]) (by kernel_rfl) (by simp) ?_
    refine AllReadyH.cons rfl (fun K hK => ?_) AllReadyH.nil
    go_simp
    refine (fits_2 e al as_ af cl cs cf _ (HR1.out _ (enBox_below hHeld)) hs HK.out).mono ?_; rintro x w3 ⟨he, hb3⟩; rw [hF] at he; subst he; have hk3 := HS.out _ ((enBox_below hHeld).trans (hb3.mono (enBox_below hHeld).size)); clear hb3
    refine hK.out _ _ ?_ (fun hHeld => ?_)
    · exact hk3
    clear hK K
    try simp only [Act.put, List.setIfInBounds_toArray, List.set_cons_succ, List.set_cons_zero]
    refine takeH (i := 4) (d := (some 28)) (v := ?_) rfl rfl (by kernel_rfl) (by kernel_rfl) (by kernel_rfl) (fun _ _ _ h => h) (by kernel_rfl) ?_ (by assumption) ?_
    rotate_left
    · (intro w hSw; (try dsimp only at hSw); go_simp; try with_reducible rfl)
    try simp only [Act.put, List.setIfInBounds_toArray, List.set_cons_succ, List.set_cons_zero]
    refine takeH (i := 5) (d := (some 29)) (v := ?_) rfl rfl (by kernel_rfl) (by kernel_rfl) (by kernel_rfl) (fun _ _ _ h => h) (by kernel_rfl) ?_ (by assumption) ?_
    rotate_left
    · (intro w hSw; (try dsimp only at hSw); go_simp; try with_reducible rfl)
    try simp only [Act.put, List.setIfInBounds_toArray, List.set_cons_succ, List.set_cons_zero]
    refine takeH (i := 6) (d := (some 30)) (v := ?_) rfl rfl (by kernel_rfl) (by kernel_rfl) (by kernel_rfl) (fun _ _ _ h => h) (by kernel_rfl) ?_ (by assumption) ?_
    rotate_left
    · (intro w hSw; (try dsimp only at hSw); go_simp; try with_reducible rfl)
    try simp only [Act.put, List.setIfInBounds_toArray, List.set_cons_succ, List.set_cons_zero]
    refine takeH (i := 8) (d := (some 32)) (v := ?_) rfl rfl (by kernel_rfl) (by kernel_rfl) (by kernel_rfl) (fun _ _ _ h => h) (by kernel_rfl) ?_ (by assumption) ?_
    rotate_left
    · (intro w hSw; (try dsimp only at hSw); go_simp; try with_reducible rfl)
    try simp only [Act.put, List.setIfInBounds_toArray, List.set_cons_succ, List.set_cons_zero]
    refine wpAnyH_ready (rs := [7]) (by kernel_rfl) (by simp) ?_
    refine AllReadyH.cons rfl (fun K hK => ?_) AllReadyH.nil
    go_simp
    refine (size_2 e al as_ af cl cs cf _ HK.out).mono ?_; rintro x w4 ⟨he, rfl⟩; subst he
    refine hK.out _ _ ?_ (fun hHeld => ?_)
    · exact hHeld
    clear hK K
    try simp only [Act.put, List.setIfInBounds_toArray, List.set_cons_succ, List.set_cons_zero]
    refine wpAnyH_ready (rs := [9]) (by kernel_rfl) (by simp) ?_
    refine AllReadyH.cons rfl (fun K hK => ?_) AllReadyH.nil
    go_simp
    refine (entrySize_any e al as_ af cl cs cf _ hs ht).mono ?_; rintro x w4 ⟨he, hb4⟩; subst he; have hk4 := HS.out _ ((enBox_below hHeld).trans (hb4.mono (enBox_below hHeld).size)); clear hb4
    refine hK.out _ _ ?_ (fun hHeld => ?_)
    · exact hk4
    clear hK K
    try simp only [Act.put, List.setIfInBounds_toArray, List.set_cons_succ, List.set_cons_zero]
    refine takeH (i := 10) (d := (some 34)) (v := ?_) rfl rfl (by kernel_rfl) (by kernel_rfl) (by kernel_rfl) (fun _ _ _ h => h) (by kernel_rfl) ?_ (by assumption) ?_
    rotate_left
    · (intro w hSw; (try dsimp only at hSw); go_simp; try with_reducible rfl)
    try simp only [Act.put, List.setIfInBounds_toArray, List.set_cons_succ, List.set_cons_zero]
    refine takeH (i := 11) (d := (some 35)) (v := ?_) rfl rfl (by kernel_rfl) (by kernel_rfl) (by kernel_rfl) (fun _ _ _ h => h) (by kernel_rfl) ?_ (by assumption) ?_
    rotate_left
    · (intro w hSw; (try dsimp only at hSw); go_simp; try with_reducible rfl)
    try simp only [Act.put, List.setIfInBounds_toArray, List.set_cons_succ, List.set_cons_zero]
    refine takeH (i := 12) (d := (some 2)) (v := ?_) rfl rfl (by kernel_rfl) (by kernel_rfl) (by kernel_rfl) (fun _ _ _ h => h) (by kernel_rfl) ?_ (by assumption) ?_
    rotate_left
    · (intro w hSw; (try dsimp only at hSw); go_simp; try with_reducible rfl)
    try simp only [Act.put, List.setIfInBounds_toArray, List.set_cons_succ, List.set_cons_zero]
    refine wpAnyH_done (by kernel_rfl) ?_ _
    have hB3 := enBox_below hk4
    clear hk4 hmF hmS
    go_wp2_with fail
    go_ret
    exact ⟨ret_bool (by rw [HH.out, hF, Bool.true_and]; unfold sizeAll; rw [Bool.eq_iff_iff]; simp), hB1.trans (hB3.mono hB1.size)⟩
set_option maxHeartbeats 1000000 in
theorem heldIn_3 (e : Ent) (al as_ af : Option Addr) (cl cs cf : Nat) (w : World) (hk : e.kind = 3) :
    Calls Tryz.prog 65 #[enV e (.slice al e.list.length cl) (.slice as_ e.scores.length cs) (.slice af e.fields.length cf)] w fun x w' => x = .returned (.tuple #[.iface 112 (.slice al e.list.length cl), .bool true]) ∧ Below w.heap.size w w' := by
  go_enter Tryz.func65, Tryz.ntmps65
  go_wp2_with fail
  go_ret2
  exact ⟨rfl, (Below.refl _ w).alloc (Nat.le_refl _) _⟩
theorem isFits_3 (v : Value) (w : World) : (method 251 112 v "loop.example/quincunx/impl.fits").run Tryz.prog w = .ok (103, v) w := by kernel_rfl
theorem isSize_3 (v : Value) (w : World) : (method 251 112 v "loop.example/quincunx/impl.size").run Tryz.prog w = .ok (104, v) w := by kernel_rfl
set_option maxHeartbeats 1000000 in
theorem size_3 (e : Ent) (al as_ af : Option Addr) (cl cs cf : Nat) (w : World) (hk : e.kind = 3) :
    Calls Tryz.prog 104 #[.slice al e.list.length cl] w fun x w' => x = .returned (.int .i64 (sizeK e)) ∧ w = w' := by
  have HK : Hid (sizeK e = (e.list.length : Int)) := by show _ = _; unfold sizeK; rw [hk]; rfl
  clear hk
  go_enter Tryz.func104, Tryz.ntmps104
  go_wp2_with fail
  go_ret
  exact ⟨ret_int' HK.out.symm, rfl⟩
set_option maxHeartbeats 1000000 in
theorem fits_3 (e : Ent) (al as_ af : Option Addr) (cl cs cf : Nat) (w : World) (hr : EnReads w (.slice al e.list.length cl) (.slice as_ e.scores.length cs) (.slice af e.fields.length cf) e) (hs : EnSmall e) (hk : e.kind = 3) :
    Calls Tryz.prog 103 #[.slice al e.list.length cl] w fun x w' => x = .returned (.bool (fitB e)) ∧ Below w.heap.size w w' := by
  have HK : Hid (fitB e = (decide (0 < e.list.length) && setB e.list)) := by show _ = _; unfold fitB; rw [hk]; rfl
  clear hk
  by_cases h0 : 0 < e.list.length
  · have h0' : (0 : Int) < (e.list.length : Int) := by omega
    go_enter Tryz.func103, Tryz.ntmps103
    go_wp2_with (go_at_call 105; refine (implSetOk_any (.slice al e.list.length cl) e.list _ hr.l hs.list).mono ?_; rintro x w' ⟨rfl, hb⟩)
    go_ret
    exact ⟨ret_bool (by rw [HK.out]; simp [h0]), hb⟩
  · have h0' : ¬ (0 : Int) < (e.list.length : Int) := by omega
    go_enter Tryz.func103, Tryz.ntmps103
    go_wp2_with fail
    go_ret
    exact ⟨ret_bool (by rw [HK.out]; simp [h0]), Below.refl _ _⟩
set_option maxHeartbeats 8000000 in
set_option maxRecDepth 100000 in
theorem implEntryOk_3 (e : Ent) (vl vs vf : Value) (w : World) (hr : EnReads w vl vs vf e) (hs : EnSmall e) (hy : e.key.size ≤ 1048576) (ht : e.text.size ≤ 1048576) (hK : keyOkB e.key = true) (hT : tilOkB e.til = true) (hk : e.kind = 3) :
    Calls Tryz.prog 45 #[enV e vl vs vf] w fun x w' => x = .returned (.bool (heldOkB e)) ∧ Below w.heap.size w w' := by
  obtain ⟨al, cl, as_, cs, af, cf, rfl, rfl, rfl⟩ := enReads_shape hr
  have hT1 : 0 ≤ e.til ∧ e.til ≤ 2000000 := by unfold tilOkB at hT; simpa using hT
  obtain ⟨t1, t2⟩ := hT1
  clear hT
  have HH : Hid _ := held_fit e (by omega)
  have HK : Hid (e.kind = 3) := hk
  clear hk
  go_enter Tryz.func45, Tryz.ntmps45
  go_wp2_with (first | (go_at_call 64; refine (keyOk_any _ _ hy).mono ?_; rw [hK]; rintro e w' ⟨rfl, rfl⟩) | (go_at_call 65; refine (heldIn_3 e _ _ _ _ _ _ _ HK.out).mono ?_; rintro x w1 ⟨rfl, hb1⟩))
  have hB0 : Below w.heap.size w (w.alloc (.cells #[.string e.key, .int .i64 e.til, .int .i64 e.kind, .string e.text, .slice al e.list.length cl, .slice as_ e.scores.length cs, .slice af e.fields.length cf] 43)) := (Below.refl _ w).alloc (Nat.le_refl _) _
  have hB1 := hB0.trans (hb1.mono hB0.size)
  have hx := box7_row ((hb1.block w.heap.size (by simp)).trans (heap_alloc_new _ _))
  have hlt : w.heap.size < w1.heap.size := Nat.lt_of_lt_of_le (by simp) hb1.size
  have HS : Hid (∀ w', Below w1.heap.size w1 w' → EnBox w w1 e (.slice al e.list.length cl) (.slice as_ e.scores.length cs) (.slice af e.fields.length cf) w') := fun w' h => enBox_of hx hlt h
  have HR1 : Hid (∀ w', Below w1.heap.size w1 w' → EnReads w' (.slice al e.list.length cl) (.slice as_ e.scores.length cs) (.slice af e.fields.length cf) e) := fun w' h => enReads_kept (enReads_kept hr hB1) h
  clear hx hb1 hB0 hr
  have hmF := isFits_3 (.slice al e.list.length cl)
  have hmS := isSize_3 (.slice al e.list.length cl)
  cases hF : fitB e with
  | false =>
    refine wp_region_held_drew (S := (fun w' => Below w1.heap.size w1 w' ∧ w'.cell? ⟨w.heap.size, 0, none⟩ = some (.string e.key) ∧ w'.cell? ⟨w.heap.size, 1, none⟩ = some (.int .i64 e.til) ∧ w'.cell? ⟨w.heap.size, 2, none⟩ = some (.int .i64 e.kind) ∧ w'.cell? ⟨w.heap.size, 3, none⟩ = some (.string e.text) ∧ w'.cell? ⟨w.heap.size, 4, none⟩ = some (.slice al e.list.length cl) ∧ w'.cell? ⟨w.heap.size, 5, none⟩ = some (.slice as_ e.scores.length cs) ∧ w'.cell? ⟨w.heap.size, 6, none⟩ = some (.slice af e.fields.length cf))) (by kernel_rfl) (by exact HS.out _ (Below.refl _ _).drew) (fun hHeld => ?_)
    refine takeH (i := 0) (d := (some 24)) (v := ?_) rfl rfl (by kernel_rfl) (by kernel_rfl) (by kernel_rfl) (fun _ _ _ h => h) (by kernel_rfl) ?_ (by assumption) ?_
    rotate_left
    · (intro w hSw; (try dsimp only at hSw); go_simp; try with_reducible rfl)
    try simp only [Act.put, List.setIfInBounds_toArray, List.set_cons_succ, List.set_cons_zero]
    refine takeH (i := 1) (d := (some 25)) (v := ?_) rfl rfl (by kernel_rfl) (by kernel_rfl) (by kernel_rfl) (fun _ _ _ h => h) (by kernel_rfl) ?_ (by assumption) ?_
    rotate_left
    · (intro w hSw; (try dsimp only at hSw); go_simp; try with_reducible rfl)
    try simp only [Act.put, List.setIfInBounds_toArray, List.set_cons_succ, List.set_cons_zero]
    refine takeH (i := 2) (d := (some 26)) (v := ?_) rfl rfl (by kernel_rfl) (by kernel_rfl) (by kernel_rfl) (fun _ _ _ h => h) (by kernel_rfl) ?_ (by assumption) ?_
    rotate_left
    · (intro w hSw; (try dsimp only at hSw); go_simp; try with_reducible rfl)
    try simp only [Act.put, List.setIfInBounds_toArray, List.set_cons_succ, List.set_cons_zero]
    refine wpAnyH_ready (rs := [3]) (by kernel_rfl) (by simp) ?_
    refine AllReadyH.cons rfl (fun K hK => ?_) AllReadyH.nil
    go_simp
    refine (fits_3 e al as_ af cl cs cf _ (HR1.out _ (enBox_below hHeld)) hs HK.out).mono ?_; rintro x w3 ⟨he, hb3⟩; rw [hF] at he; subst he; have hk3 := HS.out _ ((enBox_below hHeld).trans (hb3.mono (enBox_below hHeld).size)); clear hb3
    refine hK.out _ _ ?_ (fun hHeld => ?_)
    · exact hk3
    clear hK K
    try simp only [Act.put, List.setIfInBounds_toArray, List.set_cons_succ, List.set_cons_zero]
    refine takeH (i := 4) (d := (some 28)) (v := ?_) rfl rfl (by kernel_rfl) (by kernel_rfl) (by kernel_rfl) (fun _ _ _ h => h) (by kernel_rfl) ?_ (by assumption) ?_
    rotate_left
    · (intro w hSw; (try dsimp only at hSw); go_simp; try with_reducible rfl)
    try simp only [Act.put, List.setIfInBounds_toArray, List.set_cons_succ, List.set_cons_zero]
    refine takeH (i := 5) (d := (some 29)) (v := ?_) rfl rfl (by kernel_rfl) (by kernel_rfl) (by kernel_rfl) (fun _ _ _ h => h) (by kernel_rfl) ?_ (by assumption) ?_
    rotate_left
    · (intro w hSw; (try dsimp only at hSw); go_simp; try with_reducible rfl)
    try simp only [Act.put, List.setIfInBounds_toArray, List.set_cons_succ, List.set_cons_zero]
    refine skipH (i := 6) (d := (some 30)) rfl rfl (by kernel_rfl) (by kernel_rfl) (by kernel_rfl) (fun _ _ _ h => h) (by kernel_rfl) (by assumption) ?_
    try simp only [Act.put, List.setIfInBounds_toArray, List.set_cons_succ, List.set_cons_zero]
    refine skipH (i := 7) (d := (some 31)) rfl rfl (by kernel_rfl) (by kernel_rfl) (by kernel_rfl) (fun _ _ _ h => h) (by kernel_rfl) (by assumption) ?_
    try simp only [Act.put, List.setIfInBounds_toArray, List.set_cons_succ, List.set_cons_zero]
    refine skipH (i := 8) (d := (some 32)) rfl rfl (by kernel_rfl) (by kernel_rfl) (by kernel_rfl) (fun _ _ _ h => h) (by kernel_rfl) (by assumption) ?_
    try simp only [Act.put, List.setIfInBounds_toArray, List.set_cons_succ, List.set_cons_zero]
    refine skipH (i := 9) (d := (some 33)) rfl rfl (by kernel_rfl) (by kernel_rfl) (by kernel_rfl) (fun _ _ _ h => h) (by kernel_rfl) (by assumption) ?_
    try simp only [Act.put, List.setIfInBounds_toArray, List.set_cons_succ, List.set_cons_zero]
    refine skipH (i := 10) (d := (some 34)) rfl rfl (by kernel_rfl) (by kernel_rfl) (by kernel_rfl) (fun _ _ _ h => h) (by kernel_rfl) (by assumption) ?_
    try simp only [Act.put, List.setIfInBounds_toArray, List.set_cons_succ, List.set_cons_zero]
    refine takeH (i := 11) (d := (some 35)) (v := ?_) rfl rfl (by kernel_rfl) (by kernel_rfl) (by kernel_rfl) (fun _ _ _ h => h) (by kernel_rfl) ?_ (by assumption) ?_
    rotate_left
    · (intro w hSw; (try dsimp only at hSw); go_simp; try with_reducible rfl)
    try simp only [Act.put, List.setIfInBounds_toArray, List.set_cons_succ, List.set_cons_zero]
    refine takeH (i := 12) (d := (some 2)) (v := ?_) rfl rfl (by kernel_rfl) (by kernel_rfl) (by kernel_rfl) (fun _ _ _ h => h) (by kernel_rfl) ?_ (by assumption) ?_
    rotate_left
    · (intro w hSw; (try dsimp only at hSw); go_simp; try with_reducible rfl)
    try simp only [Act.put, List.setIfInBounds_toArray, List.set_cons_succ, List.set_cons_zero]
    refine wpAnyH_done (by kernel_rfl) ?_ _
    have hB3 := enBox_below hk3
    clear hk3 hmF hmS
    go_wp2_with fail
    go_ret
    exact ⟨ret_bool (by rw [HH.out, hF]; rfl), hB1.trans (hB3.mono hB1.size)⟩
  | true =>
    refine wp_region_held_drew (S := (fun w' => Below w1.heap.size w1 w' ∧ w'.cell? ⟨w.heap.size, 0, none⟩ = some (.string e.key) ∧ w'.cell? ⟨w.heap.size, 1, none⟩ = some (.int .i64 e.til) ∧ w'.cell? ⟨w.heap.size, 2, none⟩ = some (.int .i64 e.kind) ∧ w'.cell? ⟨w.heap.size, 3, none⟩ = some (.string e.text) ∧ w'.cell? ⟨w.heap.size, 4, none⟩ = some (.slice al e.list.length cl) ∧ w'.cell? ⟨w.heap.size, 5, none⟩ = some (.slice as_ e.scores.length cs) ∧ w'.cell? ⟨w.heap.size, 6, none⟩ = some (.slice af e.fields.length cf))) (by kernel_rfl) (by exact HS.out _ (Below.refl _ _).drew) (fun hHeld => ?_)
    refine takeH (i := 0) (d := (some 24)) (v := ?_) rfl rfl (by kernel_rfl) (by kernel_rfl) (by kernel_rfl) (fun _ _ _ h => h) (by kernel_rfl) ?_ (by assumption) ?_
    rotate_left
    · (intro w hSw; (try dsimp only at hSw); go_simp; try with_reducible rfl)
    try simp only [Act.put, List.setIfInBounds_toArray, List.set_cons_succ, List.set_cons_zero]
    refine takeH (i := 1) (d := (some 25)) (v := ?_) rfl rfl (by kernel_rfl) (by kernel_rfl) (by kernel_rfl) (fun _ _ _ h => h) (by kernel_rfl) ?_ (by assumption) ?_
    rotate_left
    · (intro w hSw; (try dsimp only at hSw); go_simp; try with_reducible rfl)
    try simp only [Act.put, List.setIfInBounds_toArray, List.set_cons_succ, List.set_cons_zero]
    refine takeH (i := 2) (d := (some 26)) (v := ?_) rfl rfl (by kernel_rfl) (by kernel_rfl) (by kernel_rfl) (fun _ _ _ h => h) (by kernel_rfl) ?_ (by assumption) ?_
    rotate_left
    · (intro w hSw; (try dsimp only at hSw); go_simp; try with_reducible rfl)
    try simp only [Act.put, List.setIfInBounds_toArray, List.set_cons_succ, List.set_cons_zero]
    refine wpAnyH_ready (rs := [3]) (by kernel_rfl) (by simp) ?_
    refine AllReadyH.cons rfl (fun K hK => ?_) AllReadyH.nil
    go_simp
    refine (fits_3 e al as_ af cl cs cf _ (HR1.out _ (enBox_below hHeld)) hs HK.out).mono ?_; rintro x w3 ⟨he, hb3⟩; rw [hF] at he; subst he; have hk3 := HS.out _ ((enBox_below hHeld).trans (hb3.mono (enBox_below hHeld).size)); clear hb3
    refine hK.out _ _ ?_ (fun hHeld => ?_)
    · exact hk3
    clear hK K
    try simp only [Act.put, List.setIfInBounds_toArray, List.set_cons_succ, List.set_cons_zero]
    refine takeH (i := 4) (d := (some 28)) (v := ?_) rfl rfl (by kernel_rfl) (by kernel_rfl) (by kernel_rfl) (fun _ _ _ h => h) (by kernel_rfl) ?_ (by assumption) ?_
    rotate_left
    · (intro w hSw; (try dsimp only at hSw); go_simp; try with_reducible rfl)
    try simp only [Act.put, List.setIfInBounds_toArray, List.set_cons_succ, List.set_cons_zero]
    refine takeH (i := 5) (d := (some 29)) (v := ?_) rfl rfl (by kernel_rfl) (by kernel_rfl) (by kernel_rfl) (fun _ _ _ h => h) (by kernel_rfl) ?_ (by assumption) ?_
    rotate_left
    · (intro w hSw; (try dsimp only at hSw); go_simp; try with_reducible rfl)
    try simp only [Act.put, List.setIfInBounds_toArray, List.set_cons_succ, List.set_cons_zero]
    refine takeH (i := 6) (d := (some 30)) (v := ?_) rfl rfl (by kernel_rfl) (by kernel_rfl) (by kernel_rfl) (fun _ _ _ h => h) (by kernel_rfl) ?_ (by assumption) ?_
    rotate_left
    · (intro w hSw; (try dsimp only at hSw); go_simp; try with_reducible rfl)
    try simp only [Act.put, List.setIfInBounds_toArray, List.set_cons_succ, List.set_cons_zero]
    refine takeH (i := 8) (d := (some 32)) (v := ?_) rfl rfl (by kernel_rfl) (by kernel_rfl) (by kernel_rfl) (fun _ _ _ h => h) (by kernel_rfl) ?_ (by assumption) ?_
    rotate_left
    · (intro w hSw; (try dsimp only at hSw); go_simp; try with_reducible rfl)
    try simp only [Act.put, List.setIfInBounds_toArray, List.set_cons_succ, List.set_cons_zero]
    refine wpAnyH_ready (rs := [7]) (by kernel_rfl) (by simp) ?_
    refine AllReadyH.cons rfl (fun K hK => ?_) AllReadyH.nil
    go_simp
    refine (size_3 e al as_ af cl cs cf _ HK.out).mono ?_; rintro x w4 ⟨he, rfl⟩; subst he
    refine hK.out _ _ ?_ (fun hHeld => ?_)
    · exact hHeld
    clear hK K
    try simp only [Act.put, List.setIfInBounds_toArray, List.set_cons_succ, List.set_cons_zero]
    refine wpAnyH_ready (rs := [9]) (by kernel_rfl) (by simp) ?_
    refine AllReadyH.cons rfl (fun K hK => ?_) AllReadyH.nil
    go_simp
    refine (entrySize_any e al as_ af cl cs cf _ hs ht).mono ?_; rintro x w4 ⟨he, hb4⟩; subst he; have hk4 := HS.out _ ((enBox_below hHeld).trans (hb4.mono (enBox_below hHeld).size)); clear hb4
    refine hK.out _ _ ?_ (fun hHeld => ?_)
    · exact hk4
    clear hK K
    try simp only [Act.put, List.setIfInBounds_toArray, List.set_cons_succ, List.set_cons_zero]
    refine takeH (i := 10) (d := (some 34)) (v := ?_) rfl rfl (by kernel_rfl) (by kernel_rfl) (by kernel_rfl) (fun _ _ _ h => h) (by kernel_rfl) ?_ (by assumption) ?_
    rotate_left
    · (intro w hSw; (try dsimp only at hSw); go_simp; try with_reducible rfl)
    try simp only [Act.put, List.setIfInBounds_toArray, List.set_cons_succ, List.set_cons_zero]
    refine takeH (i := 11) (d := (some 35)) (v := ?_) rfl rfl (by kernel_rfl) (by kernel_rfl) (by kernel_rfl) (fun _ _ _ h => h) (by kernel_rfl) ?_ (by assumption) ?_
    rotate_left
    · (intro w hSw; (try dsimp only at hSw); go_simp; try with_reducible rfl)
    try simp only [Act.put, List.setIfInBounds_toArray, List.set_cons_succ, List.set_cons_zero]
    refine takeH (i := 12) (d := (some 2)) (v := ?_) rfl rfl (by kernel_rfl) (by kernel_rfl) (by kernel_rfl) (fun _ _ _ h => h) (by kernel_rfl) ?_ (by assumption) ?_
    rotate_left
    · (intro w hSw; (try dsimp only at hSw); go_simp; try with_reducible rfl)
    try simp only [Act.put, List.setIfInBounds_toArray, List.set_cons_succ, List.set_cons_zero]
    refine wpAnyH_done (by kernel_rfl) ?_ _
    have hB3 := enBox_below hk4
    clear hk4 hmF hmS
    go_wp2_with fail
    go_ret
    exact ⟨ret_bool (by rw [HH.out, hF, Bool.true_and]; unfold sizeAll; rw [Bool.eq_iff_iff]; simp), hB1.trans (hB3.mono hB1.size)⟩
set_option maxHeartbeats 1000000 in
theorem heldIn_4 (e : Ent) (al as_ af : Option Addr) (cl cs cf : Nat) (w : World) (hk : e.kind = 4) :
    Calls Tryz.prog 65 #[enV e (.slice al e.list.length cl) (.slice as_ e.scores.length cs) (.slice af e.fields.length cf)] w fun x w' => x = .returned (.tuple #[.iface 113 (.slice as_ e.scores.length cs), .bool true]) ∧ Below w.heap.size w w' := by
  go_enter Tryz.func65, Tryz.ntmps65
  go_wp2_with fail
  go_ret2
  exact ⟨rfl, (Below.refl _ w).alloc (Nat.le_refl _) _⟩
theorem isFits_4 (v : Value) (w : World) : (method 251 113 v "loop.example/quincunx/impl.fits").run Tryz.prog w = .ok (106, v) w := by kernel_rfl
theorem isSize_4 (v : Value) (w : World) : (method 251 113 v "loop.example/quincunx/impl.size").run Tryz.prog w = .ok (107, v) w := by kernel_rfl
set_option maxHeartbeats 1000000 in
theorem size_4 (e : Ent) (al as_ af : Option Addr) (cl cs cf : Nat) (w : World) (hk : e.kind = 4) :
    Calls Tryz.prog 107 #[.slice as_ e.scores.length cs] w fun x w' => x = .returned (.int .i64 (sizeK e)) ∧ w = w' := by
  have HK : Hid (sizeK e = (e.scores.length : Int)) := by show _ = _; unfold sizeK; rw [hk]; rfl
  clear hk
  go_enter Tryz.func107, Tryz.ntmps107
  go_wp2_with fail
  go_ret
  exact ⟨ret_int' HK.out.symm, rfl⟩
set_option maxHeartbeats 1000000 in
theorem fits_4 (e : Ent) (al as_ af : Option Addr) (cl cs cf : Nat) (w : World) (hr : EnReads w (.slice al e.list.length cl) (.slice as_ e.scores.length cs) (.slice af e.fields.length cf) e) (hs : EnSmall e) (hk : e.kind = 4) :
    Calls Tryz.prog 106 #[.slice as_ e.scores.length cs] w fun x w' => x = .returned (.bool (fitB e)) ∧ Below w.heap.size w w' := by
  have HK : Hid (fitB e = (decide (0 < e.scores.length) && scOkB e.scores)) := by show _ = _; unfold fitB; rw [hk]; rfl
  clear hk
  by_cases h0 : 0 < e.scores.length
  · have h0' : (0 : Int) < (e.scores.length : Int) := by omega
    go_enter Tryz.func106, Tryz.ntmps106
    go_wp2_with (go_at_call 108; refine (implScoresOk_any (.slice as_ e.scores.length cs) e.scores _ hr.s hs.scores).mono ?_; rintro x w' ⟨rfl, hb⟩)
    go_ret
    exact ⟨ret_bool (by rw [HK.out]; simp [h0]), hb⟩
  · have h0' : ¬ (0 : Int) < (e.scores.length : Int) := by omega
    go_enter Tryz.func106, Tryz.ntmps106
    go_wp2_with fail
    go_ret
    exact ⟨ret_bool (by rw [HK.out]; simp [h0]), Below.refl _ _⟩
set_option maxHeartbeats 8000000 in
set_option maxRecDepth 100000 in
theorem implEntryOk_4 (e : Ent) (vl vs vf : Value) (w : World) (hr : EnReads w vl vs vf e) (hs : EnSmall e) (hy : e.key.size ≤ 1048576) (ht : e.text.size ≤ 1048576) (hK : keyOkB e.key = true) (hT : tilOkB e.til = true) (hk : e.kind = 4) :
    Calls Tryz.prog 45 #[enV e vl vs vf] w fun x w' => x = .returned (.bool (heldOkB e)) ∧ Below w.heap.size w w' := by
  obtain ⟨al, cl, as_, cs, af, cf, rfl, rfl, rfl⟩ := enReads_shape hr
  have hT1 : 0 ≤ e.til ∧ e.til ≤ 2000000 := by unfold tilOkB at hT; simpa using hT
  obtain ⟨t1, t2⟩ := hT1
  clear hT
  have HH : Hid _ := held_fit e (by omega)
  have HK : Hid (e.kind = 4) := hk
  clear hk
  go_enter Tryz.func45, Tryz.ntmps45
  go_wp2_with (first | (go_at_call 64; refine (keyOk_any _ _ hy).mono ?_; rw [hK]; rintro e w' ⟨rfl, rfl⟩) | (go_at_call 65; refine (heldIn_4 e _ _ _ _ _ _ _ HK.out).mono ?_; rintro x w1 ⟨rfl, hb1⟩))
  have hB0 : Below w.heap.size w (w.alloc (.cells #[.string e.key, .int .i64 e.til, .int .i64 e.kind, .string e.text, .slice al e.list.length cl, .slice as_ e.scores.length cs, .slice af e.fields.length cf] 43)) := (Below.refl _ w).alloc (Nat.le_refl _) _
  have hB1 := hB0.trans (hb1.mono hB0.size)
  have hx := box7_row ((hb1.block w.heap.size (by simp)).trans (heap_alloc_new _ _))
  have hlt : w.heap.size < w1.heap.size := Nat.lt_of_lt_of_le (by simp) hb1.size
  have HS : Hid (∀ w', Below w1.heap.size w1 w' → EnBox w w1 e (.slice al e.list.length cl) (.slice as_ e.scores.length cs) (.slice af e.fields.length cf) w') := fun w' h => enBox_of hx hlt h
  have HR1 : Hid (∀ w', Below w1.heap.size w1 w' → EnReads w' (.slice al e.list.length cl) (.slice as_ e.scores.length cs) (.slice af e.fields.length cf) e) := fun w' h => enReads_kept (enReads_kept hr hB1) h
  clear hx hb1 hB0 hr
  have hmF := isFits_4 (.slice as_ e.scores.length cs)
  have hmS := isSize_4 (.slice as_ e.scores.length cs)
  cases hF : fitB e with
  | false =>
    refine wp_region_held_drew (S := (fun w' => Below w1.heap.size w1 w' ∧ w'.cell? ⟨w.heap.size, 0, none⟩ = some (.string e.key) ∧ w'.cell? ⟨w.heap.size, 1, none⟩ = some (.int .i64 e.til) ∧ w'.cell? ⟨w.heap.size, 2, none⟩ = some (.int .i64 e.kind) ∧ w'.cell? ⟨w.heap.size, 3, none⟩ = some (.string e.text) ∧ w'.cell? ⟨w.heap.size, 4, none⟩ = some (.slice al e.list.length cl) ∧ w'.cell? ⟨w.heap.size, 5, none⟩ = some (.slice as_ e.scores.length cs) ∧ w'.cell? ⟨w.heap.size, 6, none⟩ = some (.slice af e.fields.length cf))) (by kernel_rfl) (by exact HS.out _ (Below.refl _ _).drew) (fun hHeld => ?_)
    refine takeH (i := 0) (d := (some 24)) (v := ?_) rfl rfl (by kernel_rfl) (by kernel_rfl) (by kernel_rfl) (fun _ _ _ h => h) (by kernel_rfl) ?_ (by assumption) ?_
    rotate_left
    · (intro w hSw; (try dsimp only at hSw); go_simp; try with_reducible rfl)
    try simp only [Act.put, List.setIfInBounds_toArray, List.set_cons_succ, List.set_cons_zero]
    refine takeH (i := 1) (d := (some 25)) (v := ?_) rfl rfl (by kernel_rfl) (by kernel_rfl) (by kernel_rfl) (fun _ _ _ h => h) (by kernel_rfl) ?_ (by assumption) ?_
    rotate_left
    · (intro w hSw; (try dsimp only at hSw); go_simp; try with_reducible rfl)
    try simp only [Act.put, List.setIfInBounds_toArray, List.set_cons_succ, List.set_cons_zero]
    refine takeH (i := 2) (d := (some 26)) (v := ?_) rfl rfl (by kernel_rfl) (by kernel_rfl) (by kernel_rfl) (fun _ _ _ h => h) (by kernel_rfl) ?_ (by assumption) ?_
    rotate_left
    · (intro w hSw; (try dsimp only at hSw); go_simp; try with_reducible rfl)
    try simp only [Act.put, List.setIfInBounds_toArray, List.set_cons_succ, List.set_cons_zero]
    refine wpAnyH_ready (rs := [3]) (by kernel_rfl) (by simp) ?_
    refine AllReadyH.cons rfl (fun K hK => ?_) AllReadyH.nil
    go_simp
    refine (fits_4 e al as_ af cl cs cf _ (HR1.out _ (enBox_below hHeld)) hs HK.out).mono ?_; rintro x w3 ⟨he, hb3⟩; rw [hF] at he; subst he; have hk3 := HS.out _ ((enBox_below hHeld).trans (hb3.mono (enBox_below hHeld).size)); clear hb3
    refine hK.out _ _ ?_ (fun hHeld => ?_)
    · exact hk3
    clear hK K
    try simp only [Act.put, List.setIfInBounds_toArray, List.set_cons_succ, List.set_cons_zero]
    refine takeH (i := 4) (d := (some 28)) (v := ?_) rfl rfl (by kernel_rfl) (by kernel_rfl) (by kernel_rfl) (fun _ _ _ h => h) (by kernel_rfl) ?_ (by assumption) ?_
    rotate_left
    · (intro w hSw; (try dsimp only at hSw); go_simp; try with_reducible rfl)
    try simp only [Act.put, List.setIfInBounds_toArray, List.set_cons_succ, List.set_cons_zero]
    refine takeH (i := 5) (d := (some 29)) (v := ?_) rfl rfl (by kernel_rfl) (by kernel_rfl) (by kernel_rfl) (fun _ _ _ h => h) (by kernel_rfl) ?_ (by assumption) ?_
    rotate_left
    · (intro w hSw; (try dsimp only at hSw); go_simp; try with_reducible rfl)
    try simp only [Act.put, List.setIfInBounds_toArray, List.set_cons_succ, List.set_cons_zero]
    refine skipH (i := 6) (d := (some 30)) rfl rfl (by kernel_rfl) (by kernel_rfl) (by kernel_rfl) (fun _ _ _ h => h) (by kernel_rfl) (by assumption) ?_
    try simp only [Act.put, List.setIfInBounds_toArray, List.set_cons_succ, List.set_cons_zero]
    refine skipH (i := 7) (d := (some 31)) rfl rfl (by kernel_rfl) (by kernel_rfl) (by kernel_rfl) (fun _ _ _ h => h) (by kernel_rfl) (by assumption) ?_
    try simp only [Act.put, List.setIfInBounds_toArray, List.set_cons_succ, List.set_cons_zero]
    refine skipH (i := 8) (d := (some 32)) rfl rfl (by kernel_rfl) (by kernel_rfl) (by kernel_rfl) (fun _ _ _ h => h) (by kernel_rfl) (by assumption) ?_
    try simp only [Act.put, List.setIfInBounds_toArray, List.set_cons_succ, List.set_cons_zero]
    refine skipH (i := 9) (d := (some 33)) rfl rfl (by kernel_rfl) (by kernel_rfl) (by kernel_rfl) (fun _ _ _ h => h) (by kernel_rfl) (by assumption) ?_
    try simp only [Act.put, List.setIfInBounds_toArray, List.set_cons_succ, List.set_cons_zero]
    refine skipH (i := 10) (d := (some 34)) rfl rfl (by kernel_rfl) (by kernel_rfl) (by kernel_rfl) (fun _ _ _ h => h) (by kernel_rfl) (by assumption) ?_
    try simp only [Act.put, List.setIfInBounds_toArray, List.set_cons_succ, List.set_cons_zero]
    refine takeH (i := 11) (d := (some 35)) (v := ?_) rfl rfl (by kernel_rfl) (by kernel_rfl) (by kernel_rfl) (fun _ _ _ h => h) (by kernel_rfl) ?_ (by assumption) ?_
    rotate_left
    · (intro w hSw; (try dsimp only at hSw); go_simp; try with_reducible rfl)
    try simp only [Act.put, List.setIfInBounds_toArray, List.set_cons_succ, List.set_cons_zero]
    refine takeH (i := 12) (d := (some 2)) (v := ?_) rfl rfl (by kernel_rfl) (by kernel_rfl) (by kernel_rfl) (fun _ _ _ h => h) (by kernel_rfl) ?_ (by assumption) ?_
    rotate_left
    · (intro w hSw; (try dsimp only at hSw); go_simp; try with_reducible rfl)
    try simp only [Act.put, List.setIfInBounds_toArray, List.set_cons_succ, List.set_cons_zero]
    refine wpAnyH_done (by kernel_rfl) ?_ _
    have hB3 := enBox_below hk3
    clear hk3 hmF hmS
    go_wp2_with fail
    go_ret
    exact ⟨ret_bool (by rw [HH.out, hF]; rfl), hB1.trans (hB3.mono hB1.size)⟩
  | true =>
    refine wp_region_held_drew (S := (fun w' => Below w1.heap.size w1 w' ∧ w'.cell? ⟨w.heap.size, 0, none⟩ = some (.string e.key) ∧ w'.cell? ⟨w.heap.size, 1, none⟩ = some (.int .i64 e.til) ∧ w'.cell? ⟨w.heap.size, 2, none⟩ = some (.int .i64 e.kind) ∧ w'.cell? ⟨w.heap.size, 3, none⟩ = some (.string e.text) ∧ w'.cell? ⟨w.heap.size, 4, none⟩ = some (.slice al e.list.length cl) ∧ w'.cell? ⟨w.heap.size, 5, none⟩ = some (.slice as_ e.scores.length cs) ∧ w'.cell? ⟨w.heap.size, 6, none⟩ = some (.slice af e.fields.length cf))) (by kernel_rfl) (by exact HS.out _ (Below.refl _ _).drew) (fun hHeld => ?_)
    refine takeH (i := 0) (d := (some 24)) (v := ?_) rfl rfl (by kernel_rfl) (by kernel_rfl) (by kernel_rfl) (fun _ _ _ h => h) (by kernel_rfl) ?_ (by assumption) ?_
    rotate_left
    · (intro w hSw; (try dsimp only at hSw); go_simp; try with_reducible rfl)
    try simp only [Act.put, List.setIfInBounds_toArray, List.set_cons_succ, List.set_cons_zero]
    refine takeH (i := 1) (d := (some 25)) (v := ?_) rfl rfl (by kernel_rfl) (by kernel_rfl) (by kernel_rfl) (fun _ _ _ h => h) (by kernel_rfl) ?_ (by assumption) ?_
    rotate_left
    · (intro w hSw; (try dsimp only at hSw); go_simp; try with_reducible rfl)
    try simp only [Act.put, List.setIfInBounds_toArray, List.set_cons_succ, List.set_cons_zero]
    refine takeH (i := 2) (d := (some 26)) (v := ?_) rfl rfl (by kernel_rfl) (by kernel_rfl) (by kernel_rfl) (fun _ _ _ h => h) (by kernel_rfl) ?_ (by assumption) ?_
    rotate_left
    · (intro w hSw; (try dsimp only at hSw); go_simp; try with_reducible rfl)
    try simp only [Act.put, List.setIfInBounds_toArray, List.set_cons_succ, List.set_cons_zero]
    refine wpAnyH_ready (rs := [3]) (by kernel_rfl) (by simp) ?_
    refine AllReadyH.cons rfl (fun K hK => ?_) AllReadyH.nil
    go_simp
    refine (fits_4 e al as_ af cl cs cf _ (HR1.out _ (enBox_below hHeld)) hs HK.out).mono ?_; rintro x w3 ⟨he, hb3⟩; rw [hF] at he; subst he; have hk3 := HS.out _ ((enBox_below hHeld).trans (hb3.mono (enBox_below hHeld).size)); clear hb3
    refine hK.out _ _ ?_ (fun hHeld => ?_)
    · exact hk3
    clear hK K
    try simp only [Act.put, List.setIfInBounds_toArray, List.set_cons_succ, List.set_cons_zero]
    refine takeH (i := 4) (d := (some 28)) (v := ?_) rfl rfl (by kernel_rfl) (by kernel_rfl) (by kernel_rfl) (fun _ _ _ h => h) (by kernel_rfl) ?_ (by assumption) ?_
    rotate_left
    · (intro w hSw; (try dsimp only at hSw); go_simp; try with_reducible rfl)
    try simp only [Act.put, List.setIfInBounds_toArray, List.set_cons_succ, List.set_cons_zero]
    refine takeH (i := 5) (d := (some 29)) (v := ?_) rfl rfl (by kernel_rfl) (by kernel_rfl) (by kernel_rfl) (fun _ _ _ h => h) (by kernel_rfl) ?_ (by assumption) ?_
    rotate_left
    · (intro w hSw; (try dsimp only at hSw); go_simp; try with_reducible rfl)
    try simp only [Act.put, List.setIfInBounds_toArray, List.set_cons_succ, List.set_cons_zero]
    refine takeH (i := 6) (d := (some 30)) (v := ?_) rfl rfl (by kernel_rfl) (by kernel_rfl) (by kernel_rfl) (fun _ _ _ h => h) (by kernel_rfl) ?_ (by assumption) ?_
    rotate_left
    · (intro w hSw; (try dsimp only at hSw); go_simp; try with_reducible rfl)
    try simp only [Act.put, List.setIfInBounds_toArray, List.set_cons_succ, List.set_cons_zero]
    refine takeH (i := 8) (d := (some 32)) (v := ?_) rfl rfl (by kernel_rfl) (by kernel_rfl) (by kernel_rfl) (fun _ _ _ h => h) (by kernel_rfl) ?_ (by assumption) ?_
    rotate_left
    · (intro w hSw; (try dsimp only at hSw); go_simp; try with_reducible rfl)
    try simp only [Act.put, List.setIfInBounds_toArray, List.set_cons_succ, List.set_cons_zero]
    refine wpAnyH_ready (rs := [7]) (by kernel_rfl) (by simp) ?_
    refine AllReadyH.cons rfl (fun K hK => ?_) AllReadyH.nil
    go_simp
    refine (size_4 e al as_ af cl cs cf _ HK.out).mono ?_; rintro x w4 ⟨he, rfl⟩; subst he
    refine hK.out _ _ ?_ (fun hHeld => ?_)
    · exact hHeld
    clear hK K
    try simp only [Act.put, List.setIfInBounds_toArray, List.set_cons_succ, List.set_cons_zero]
    refine wpAnyH_ready (rs := [9]) (by kernel_rfl) (by simp) ?_
    refine AllReadyH.cons rfl (fun K hK => ?_) AllReadyH.nil
    go_simp
    refine (entrySize_any e al as_ af cl cs cf _ hs ht).mono ?_; rintro x w4 ⟨he, hb4⟩; subst he; have hk4 := HS.out _ ((enBox_below hHeld).trans (hb4.mono (enBox_below hHeld).size)); clear hb4
    refine hK.out _ _ ?_ (fun hHeld => ?_)
    · exact hk4
    clear hK K
    try simp only [Act.put, List.setIfInBounds_toArray, List.set_cons_succ, List.set_cons_zero]
    refine takeH (i := 10) (d := (some 34)) (v := ?_) rfl rfl (by kernel_rfl) (by kernel_rfl) (by kernel_rfl) (fun _ _ _ h => h) (by kernel_rfl) ?_ (by assumption) ?_
    rotate_left
    · (intro w hSw; (try dsimp only at hSw); go_simp; try with_reducible rfl)
    try simp only [Act.put, List.setIfInBounds_toArray, List.set_cons_succ, List.set_cons_zero]
    refine takeH (i := 11) (d := (some 35)) (v := ?_) rfl rfl (by kernel_rfl) (by kernel_rfl) (by kernel_rfl) (fun _ _ _ h => h) (by kernel_rfl) ?_ (by assumption) ?_
    rotate_left
    · (intro w hSw; (try dsimp only at hSw); go_simp; try with_reducible rfl)
    try simp only [Act.put, List.setIfInBounds_toArray, List.set_cons_succ, List.set_cons_zero]
    refine takeH (i := 12) (d := (some 2)) (v := ?_) rfl rfl (by kernel_rfl) (by kernel_rfl) (by kernel_rfl) (fun _ _ _ h => h) (by kernel_rfl) ?_ (by assumption) ?_
    rotate_left
    · (intro w hSw; (try dsimp only at hSw); go_simp; try with_reducible rfl)
    try simp only [Act.put, List.setIfInBounds_toArray, List.set_cons_succ, List.set_cons_zero]
    refine wpAnyH_done (by kernel_rfl) ?_ _
    have hB3 := enBox_below hk4
    clear hk4 hmF hmS
    go_wp2_with fail
    go_ret
    exact ⟨ret_bool (by rw [HH.out, hF, Bool.true_and]; unfold sizeAll; rw [Bool.eq_iff_iff]; simp), hB1.trans (hB3.mono hB1.size)⟩
set_option maxHeartbeats 1000000 in
theorem heldIn_5 (e : Ent) (al as_ af : Option Addr) (cl cs cf : Nat) (w : World) (hk : e.kind = 5) :
    Calls Tryz.prog 65 #[enV e (.slice al e.list.length cl) (.slice as_ e.scores.length cs) (.slice af e.fields.length cf)] w fun x w' => x = .returned (.tuple #[.iface 114 (.slice af e.fields.length cf), .bool true]) ∧ Below w.heap.size w w' := by
  go_enter Tryz.func65, Tryz.ntmps65
  go_wp2_with fail
  go_ret2
  exact ⟨rfl, (Below.refl _ w).alloc (Nat.le_refl _) _⟩
theorem isFits_5 (v : Value) (w : World) : (method 251 114 v "loop.example/quincunx/impl.fits").run Tryz.prog w = .ok (116, v) w := by kernel_rfl
theorem isSize_5 (v : Value) (w : World) : (method 251 114 v "loop.example/quincunx/impl.size").run Tryz.prog w = .ok (117, v) w := by kernel_rfl
set_option maxHeartbeats 1000000 in
theorem size_5 (e : Ent) (al as_ af : Option Addr) (cl cs cf : Nat) (w : World) (hk : e.kind = 5) :
    Calls Tryz.prog 117 #[.slice af e.fields.length cf] w fun x w' => x = .returned (.int .i64 (sizeK e)) ∧ w = w' := by
  have HK : Hid (sizeK e = (e.fields.length : Int)) := by show _ = _; unfold sizeK; rw [hk]; rfl
  clear hk
  go_enter Tryz.func117, Tryz.ntmps117
  go_wp2_with fail
  go_ret
  exact ⟨ret_int' HK.out.symm, rfl⟩
set_option maxHeartbeats 1000000 in
theorem fits_5 (e : Ent) (al as_ af : Option Addr) (cl cs cf : Nat) (w : World) (hr : EnReads w (.slice al e.list.length cl) (.slice as_ e.scores.length cs) (.slice af e.fields.length cf) e) (hs : EnSmall e) (hk : e.kind = 5) :
    Calls Tryz.prog 116 #[.slice af e.fields.length cf] w fun x w' => x = .returned (.bool (fitB e)) ∧ Below w.heap.size w w' := by
  have HK : Hid (fitB e = (decide (0 < e.fields.length) && prOkB e.fields)) := by show _ = _; unfold fitB; rw [hk]; rfl
  clear hk
  by_cases h0 : 0 < e.fields.length
  · have h0' : (0 : Int) < (e.fields.length : Int) := by omega
    go_enter Tryz.func116, Tryz.ntmps116
    go_wp2_with (go_at_call 118; refine (implFieldsOk_any (.slice af e.fields.length cf) e.fields _ hr.f hs.fields).mono ?_; rintro x w' ⟨rfl, hb⟩)
    go_ret
    exact ⟨ret_bool (by rw [HK.out]; simp [h0]), hb⟩
  · have h0' : ¬ (0 : Int) < (e.fields.length : Int) := by omega
    go_enter Tryz.func116, Tryz.ntmps116
    go_wp2_with fail
    go_ret
    exact ⟨ret_bool (by rw [HK.out]; simp [h0]), Below.refl _ _⟩
set_option maxHeartbeats 8000000 in
set_option maxRecDepth 100000 in
theorem implEntryOk_5 (e : Ent) (vl vs vf : Value) (w : World) (hr : EnReads w vl vs vf e) (hs : EnSmall e) (hy : e.key.size ≤ 1048576) (ht : e.text.size ≤ 1048576) (hK : keyOkB e.key = true) (hT : tilOkB e.til = true) (hk : e.kind = 5) :
    Calls Tryz.prog 45 #[enV e vl vs vf] w fun x w' => x = .returned (.bool (heldOkB e)) ∧ Below w.heap.size w w' := by
  obtain ⟨al, cl, as_, cs, af, cf, rfl, rfl, rfl⟩ := enReads_shape hr
  have hT1 : 0 ≤ e.til ∧ e.til ≤ 2000000 := by unfold tilOkB at hT; simpa using hT
  obtain ⟨t1, t2⟩ := hT1
  clear hT
  have HH : Hid _ := held_fit e (by omega)
  have HK : Hid (e.kind = 5) := hk
  clear hk
  go_enter Tryz.func45, Tryz.ntmps45
  go_wp2_with (first | (go_at_call 64; refine (keyOk_any _ _ hy).mono ?_; rw [hK]; rintro e w' ⟨rfl, rfl⟩) | (go_at_call 65; refine (heldIn_5 e _ _ _ _ _ _ _ HK.out).mono ?_; rintro x w1 ⟨rfl, hb1⟩))
  have hB0 : Below w.heap.size w (w.alloc (.cells #[.string e.key, .int .i64 e.til, .int .i64 e.kind, .string e.text, .slice al e.list.length cl, .slice as_ e.scores.length cs, .slice af e.fields.length cf] 43)) := (Below.refl _ w).alloc (Nat.le_refl _) _
  have hB1 := hB0.trans (hb1.mono hB0.size)
  have hx := box7_row ((hb1.block w.heap.size (by simp)).trans (heap_alloc_new _ _))
  have hlt : w.heap.size < w1.heap.size := Nat.lt_of_lt_of_le (by simp) hb1.size
  have HS : Hid (∀ w', Below w1.heap.size w1 w' → EnBox w w1 e (.slice al e.list.length cl) (.slice as_ e.scores.length cs) (.slice af e.fields.length cf) w') := fun w' h => enBox_of hx hlt h
  have HR1 : Hid (∀ w', Below w1.heap.size w1 w' → EnReads w' (.slice al e.list.length cl) (.slice as_ e.scores.length cs) (.slice af e.fields.length cf) e) := fun w' h => enReads_kept (enReads_kept hr hB1) h
  clear hx hb1 hB0 hr
  have hmF := isFits_5 (.slice af e.fields.length cf)
  have hmS := isSize_5 (.slice af e.fields.length cf)
  cases hF : fitB e with
  | false =>
    refine wp_region_held_drew (S := (fun w' => Below w1.heap.size w1 w' ∧ w'.cell? ⟨w.heap.size, 0, none⟩ = some (.string e.key) ∧ w'.cell? ⟨w.heap.size, 1, none⟩ = some (.int .i64 e.til) ∧ w'.cell? ⟨w.heap.size, 2, none⟩ = some (.int .i64 e.kind) ∧ w'.cell? ⟨w.heap.size, 3, none⟩ = some (.string e.text) ∧ w'.cell? ⟨w.heap.size, 4, none⟩ = some (.slice al e.list.length cl) ∧ w'.cell? ⟨w.heap.size, 5, none⟩ = some (.slice as_ e.scores.length cs) ∧ w'.cell? ⟨w.heap.size, 6, none⟩ = some (.slice af e.fields.length cf))) (by kernel_rfl) (by exact HS.out _ (Below.refl _ _).drew) (fun hHeld => ?_)
    refine takeH (i := 0) (d := (some 24)) (v := ?_) rfl rfl (by kernel_rfl) (by kernel_rfl) (by kernel_rfl) (fun _ _ _ h => h) (by kernel_rfl) ?_ (by assumption) ?_
    rotate_left
    · (intro w hSw; (try dsimp only at hSw); go_simp; try with_reducible rfl)
    try simp only [Act.put, List.setIfInBounds_toArray, List.set_cons_succ, List.set_cons_zero]
    refine takeH (i := 1) (d := (some 25)) (v := ?_) rfl rfl (by kernel_rfl) (by kernel_rfl) (by kernel_rfl) (fun _ _ _ h => h) (by kernel_rfl) ?_ (by assumption) ?_
    rotate_left
    · (intro w hSw; (try dsimp only at hSw); go_simp; try with_reducible rfl)
    try simp only [Act.put, List.setIfInBounds_toArray, List.set_cons_succ, List.set_cons_zero]
    refine takeH (i := 2) (d := (some 26)) (v := ?_) rfl rfl (by kernel_rfl) (by kernel_rfl) (by kernel_rfl) (fun _ _ _ h => h) (by kernel_rfl) ?_ (by assumption) ?_
    rotate_left
    · (intro w hSw; (try dsimp only at hSw); go_simp; try with_reducible rfl)
    try simp only [Act.put, List.setIfInBounds_toArray, List.set_cons_succ, List.set_cons_zero]
    refine wpAnyH_ready (rs := [3]) (by kernel_rfl) (by simp) ?_
    refine AllReadyH.cons rfl (fun K hK => ?_) AllReadyH.nil
    go_simp
    refine (fits_5 e al as_ af cl cs cf _ (HR1.out _ (enBox_below hHeld)) hs HK.out).mono ?_; rintro x w3 ⟨he, hb3⟩; rw [hF] at he; subst he; have hk3 := HS.out _ ((enBox_below hHeld).trans (hb3.mono (enBox_below hHeld).size)); clear hb3
    refine hK.out _ _ ?_ (fun hHeld => ?_)
    · exact hk3
    clear hK K
    try simp only [Act.put, List.setIfInBounds_toArray, List.set_cons_succ, List.set_cons_zero]
    refine takeH (i := 4) (d := (some 28)) (v := ?_) rfl rfl (by kernel_rfl) (by kernel_rfl) (by kernel_rfl) (fun _ _ _ h => h) (by kernel_rfl) ?_ (by assumption) ?_
    rotate_left
    · (intro w hSw; (try dsimp only at hSw); go_simp; try with_reducible rfl)
    try simp only [Act.put, List.setIfInBounds_toArray, List.set_cons_succ, List.set_cons_zero]
    refine takeH (i := 5) (d := (some 29)) (v := ?_) rfl rfl (by kernel_rfl) (by kernel_rfl) (by kernel_rfl) (fun _ _ _ h => h) (by kernel_rfl) ?_ (by assumption) ?_
    rotate_left
    · (intro w hSw; (try dsimp only at hSw); go_simp; try with_reducible rfl)
    try simp only [Act.put, List.setIfInBounds_toArray, List.set_cons_succ, List.set_cons_zero]
    refine skipH (i := 6) (d := (some 30)) rfl rfl (by kernel_rfl) (by kernel_rfl) (by kernel_rfl) (fun _ _ _ h => h) (by kernel_rfl) (by assumption) ?_
    try simp only [Act.put, List.setIfInBounds_toArray, List.set_cons_succ, List.set_cons_zero]
    refine skipH (i := 7) (d := (some 31)) rfl rfl (by kernel_rfl) (by kernel_rfl) (by kernel_rfl) (fun _ _ _ h => h) (by kernel_rfl) (by assumption) ?_
    try simp only [Act.put, List.setIfInBounds_toArray, List.set_cons_succ, List.set_cons_zero]
    refine skipH (i := 8) (d := (some 32)) rfl rfl (by kernel_rfl) (by kernel_rfl) (by kernel_rfl) (fun _ _ _ h => h) (by kernel_rfl) (by assumption) ?_
    try simp only [Act.put, List.setIfInBounds_toArray, List.set_cons_succ, List.set_cons_zero]
    refine skipH (i := 9) (d := (some 33)) rfl rfl (by kernel_rfl) (by kernel_rfl) (by kernel_rfl) (fun _ _ _ h => h) (by kernel_rfl) (by assumption) ?_
    try simp only [Act.put, List.setIfInBounds_toArray, List.set_cons_succ, List.set_cons_zero]
    refine skipH (i := 10) (d := (some 34)) rfl rfl (by kernel_rfl) (by kernel_rfl) (by kernel_rfl) (fun _ _ _ h => h) (by kernel_rfl) (by assumption) ?_
    try simp only [Act.put, List.setIfInBounds_toArray, List.set_cons_succ, List.set_cons_zero]
    refine takeH (i := 11) (d := (some 35)) (v := ?_) rfl rfl (by kernel_rfl) (by kernel_rfl) (by kernel_rfl) (fun _ _ _ h => h) (by kernel_rfl) ?_ (by assumption) ?_
    rotate_left
    · (intro w hSw; (try dsimp only at hSw); go_simp; try with_reducible rfl)
    try simp only [Act.put, List.setIfInBounds_toArray, List.set_cons_succ, List.set_cons_zero]
    refine takeH (i := 12) (d := (some 2)) (v := ?_) rfl rfl (by kernel_rfl) (by kernel_rfl) (by kernel_rfl) (fun _ _ _ h => h) (by kernel_rfl) ?_ (by assumption) ?_
    rotate_left
    · (intro w hSw; (try dsimp only at hSw); go_simp; try with_reducible rfl)
    try simp only [Act.put, List.setIfInBounds_toArray, List.set_cons_succ, List.set_cons_zero]
    refine wpAnyH_done (by kernel_rfl) ?_ _
    have hB3 := enBox_below hk3
    clear hk3 hmF hmS
    go_wp2_with fail
    go_ret
    exact ⟨ret_bool (by rw [HH.out, hF]; rfl), hB1.trans (hB3.mono hB1.size)⟩
  | true =>
    refine wp_region_held_drew (S := (fun w' => Below w1.heap.size w1 w' ∧ w'.cell? ⟨w.heap.size, 0, none⟩ = some (.string e.key) ∧ w'.cell? ⟨w.heap.size, 1, none⟩ = some (.int .i64 e.til) ∧ w'.cell? ⟨w.heap.size, 2, none⟩ = some (.int .i64 e.kind) ∧ w'.cell? ⟨w.heap.size, 3, none⟩ = some (.string e.text) ∧ w'.cell? ⟨w.heap.size, 4, none⟩ = some (.slice al e.list.length cl) ∧ w'.cell? ⟨w.heap.size, 5, none⟩ = some (.slice as_ e.scores.length cs) ∧ w'.cell? ⟨w.heap.size, 6, none⟩ = some (.slice af e.fields.length cf))) (by kernel_rfl) (by exact HS.out _ (Below.refl _ _).drew) (fun hHeld => ?_)
    refine takeH (i := 0) (d := (some 24)) (v := ?_) rfl rfl (by kernel_rfl) (by kernel_rfl) (by kernel_rfl) (fun _ _ _ h => h) (by kernel_rfl) ?_ (by assumption) ?_
    rotate_left
    · (intro w hSw; (try dsimp only at hSw); go_simp; try with_reducible rfl)
    try simp only [Act.put, List.setIfInBounds_toArray, List.set_cons_succ, List.set_cons_zero]
    refine takeH (i := 1) (d := (some 25)) (v := ?_) rfl rfl (by kernel_rfl) (by kernel_rfl) (by kernel_rfl) (fun _ _ _ h => h) (by kernel_rfl) ?_ (by assumption) ?_
    rotate_left
    · (intro w hSw; (try dsimp only at hSw); go_simp; try with_reducible rfl)
    try simp only [Act.put, List.setIfInBounds_toArray, List.set_cons_succ, List.set_cons_zero]
    refine takeH (i := 2) (d := (some 26)) (v := ?_) rfl rfl (by kernel_rfl) (by kernel_rfl) (by kernel_rfl) (fun _ _ _ h => h) (by kernel_rfl) ?_ (by assumption) ?_
    rotate_left
    · (intro w hSw; (try dsimp only at hSw); go_simp; try with_reducible rfl)
    try simp only [Act.put, List.setIfInBounds_toArray, List.set_cons_succ, List.set_cons_zero]
    refine wpAnyH_ready (rs := [3]) (by kernel_rfl) (by simp) ?_
    refine AllReadyH.cons rfl (fun K hK => ?_) AllReadyH.nil
    go_simp
    refine (fits_5 e al as_ af cl cs cf _ (HR1.out _ (enBox_below hHeld)) hs HK.out).mono ?_; rintro x w3 ⟨he, hb3⟩; rw [hF] at he; subst he; have hk3 := HS.out _ ((enBox_below hHeld).trans (hb3.mono (enBox_below hHeld).size)); clear hb3
    refine hK.out _ _ ?_ (fun hHeld => ?_)
    · exact hk3
    clear hK K
    try simp only [Act.put, List.setIfInBounds_toArray, List.set_cons_succ, List.set_cons_zero]
    refine takeH (i := 4) (d := (some 28)) (v := ?_) rfl rfl (by kernel_rfl) (by kernel_rfl) (by kernel_rfl) (fun _ _ _ h => h) (by kernel_rfl) ?_ (by assumption) ?_
    rotate_left
    · (intro w hSw; (try dsimp only at hSw); go_simp; try with_reducible rfl)
    try simp only [Act.put, List.setIfInBounds_toArray, List.set_cons_succ, List.set_cons_zero]
    refine takeH (i := 5) (d := (some 29)) (v := ?_) rfl rfl (by kernel_rfl) (by kernel_rfl) (by kernel_rfl) (fun _ _ _ h => h) (by kernel_rfl) ?_ (by assumption) ?_
    rotate_left
    · (intro w hSw; (try dsimp only at hSw); go_simp; try with_reducible rfl)
    try simp only [Act.put, List.setIfInBounds_toArray, List.set_cons_succ, List.set_cons_zero]
    refine takeH (i := 6) (d := (some 30)) (v := ?_) rfl rfl (by kernel_rfl) (by kernel_rfl) (by kernel_rfl) (fun _ _ _ h => h) (by kernel_rfl) ?_ (by assumption) ?_
    rotate_left
    · (intro w hSw; (try dsimp only at hSw); go_simp; try with_reducible rfl)
    try simp only [Act.put, List.setIfInBounds_toArray, List.set_cons_succ, List.set_cons_zero]
    refine takeH (i := 8) (d := (some 32)) (v := ?_) rfl rfl (by kernel_rfl) (by kernel_rfl) (by kernel_rfl) (fun _ _ _ h => h) (by kernel_rfl) ?_ (by assumption) ?_
    rotate_left
    · (intro w hSw; (try dsimp only at hSw); go_simp; try with_reducible rfl)
    try simp only [Act.put, List.setIfInBounds_toArray, List.set_cons_succ, List.set_cons_zero]
    refine wpAnyH_ready (rs := [7]) (by kernel_rfl) (by simp) ?_
    refine AllReadyH.cons rfl (fun K hK => ?_) AllReadyH.nil
    go_simp
    refine (size_5 e al as_ af cl cs cf _ HK.out).mono ?_; rintro x w4 ⟨he, rfl⟩; subst he
    refine hK.out _ _ ?_ (fun hHeld => ?_)
    · exact hHeld
    clear hK K
    try simp only [Act.put, List.setIfInBounds_toArray, List.set_cons_succ, List.set_cons_zero]
    refine wpAnyH_ready (rs := [9]) (by kernel_rfl) (by simp) ?_
    refine AllReadyH.cons rfl (fun K hK => ?_) AllReadyH.nil
    go_simp
    refine (entrySize_any e al as_ af cl cs cf _ hs ht).mono ?_; rintro x w4 ⟨he, hb4⟩; subst he; have hk4 := HS.out _ ((enBox_below hHeld).trans (hb4.mono (enBox_below hHeld).size)); clear hb4
    refine hK.out _ _ ?_ (fun hHeld => ?_)
    · exact hk4
    clear hK K
    try simp only [Act.put, List.setIfInBounds_toArray, List.set_cons_succ, List.set_cons_zero]
    refine takeH (i := 10) (d := (some 34)) (v := ?_) rfl rfl (by kernel_rfl) (by kernel_rfl) (by kernel_rfl) (fun _ _ _ h => h) (by kernel_rfl) ?_ (by assumption) ?_
    rotate_left
    · (intro w hSw; (try dsimp only at hSw); go_simp; try with_reducible rfl)
    try simp only [Act.put, List.setIfInBounds_toArray, List.set_cons_succ, List.set_cons_zero]
    refine takeH (i := 11) (d := (some 35)) (v := ?_) rfl rfl (by kernel_rfl) (by kernel_rfl) (by kernel_rfl) (fun _ _ _ h => h) (by kernel_rfl) ?_ (by assumption) ?_
    rotate_left
    · (intro w hSw; (try dsimp only at hSw); go_simp; try with_reducible rfl)
    try simp only [Act.put, List.setIfInBounds_toArray, List.set_cons_succ, List.set_cons_zero]
    refine takeH (i := 12) (d := (some 2)) (v := ?_) rfl rfl (by kernel_rfl) (by kernel_rfl) (by kernel_rfl) (fun _ _ _ h => h) (by kernel_rfl) ?_ (by assumption) ?_
    rotate_left
    · (intro w hSw; (try dsimp only at hSw); go_simp; try with_reducible rfl)
    try simp only [Act.put, List.setIfInBounds_toArray, List.set_cons_succ, List.set_cons_zero]
    refine wpAnyH_done (by kernel_rfl) ?_ _
    have hB3 := enBox_below hk4
    clear hk4 hmF hmS
    go_wp2_with fail
    go_ret
    exact ⟨ret_bool (by rw [HH.out, hF, Bool.true_and]; unfold sizeAll; rw [Bool.eq_iff_iff]; simp), hB1.trans (hB3.mono hB1.size)⟩
end Go.Proofs.YtaiboncomibikaaGreatDoor
