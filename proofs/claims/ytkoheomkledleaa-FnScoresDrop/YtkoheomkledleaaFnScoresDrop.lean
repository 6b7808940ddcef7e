/- Proved: of drawn scores and a text ScoresDrop answers as its model; a text that was taken away has no rank, all others keep their order. No condition. -/
import Derived.Test.YtkoheomkledleaaQxS
import Derived.Test.YtkoheomkledleaaAq
import Derived.ProofKit
import Derived.OpenShut
import Derived.ShutString
import Derived.ChangeOld
import Derived.Below
import Derived.Deep.RegionWith
namespace Go.Proofs.Ytkoheomkledleaa.fnScoresDrop
open Go.ChangeShapes Go.WideShapes Go.ChangeAt Go.RowKit
open Go.ChangeMaps (open_string shut_string)
set_option linter.unusedVariables false

theorem own : ownKnob Try.prog.godebug = none := by kernel_rfl
theorem laidOut : laidOutB Try.prog = true := by kernel_rfl
theorem isLen (w : World) (v : Value) (zs : List Int) (h : IsBytes w v zs) : ∃ ao cap, v = .slice ao zs.length cap ∧ zs.length ≤ 9223372036854775807 := by
  obtain ⟨ao, cap, h1, h2, h3, _⟩ := h
  unfold maxLen at h3; exact ⟨ao, cap, h1, by omega⟩
theorem step {B : Nat} {a w w' : World} (h : Below B a w) (hB : B ≤ a.heap.size) (hb : Below w.heap.size w w') : Below B a w' := h.trans (hb.mono (Nat.le_trans hB h.size))
/-- an append in a region that draws its order, behind a test that is met -/
theorem step_append_W {α : Type} {c : α → List Value} {P : Program} {w : World} {ops : Array Oper} {o : Oper} {a : Act} {kx : Act → World → Prop} {Q : Exit → Act → World → Prop} {E : Prop} {d : Option Tmp} (hw : Region.wanted o (yielded ops a.tmps) = true) (hd : o.dst = d) (s x : Operand) (t : TypeId)
    (ho : o.op = .call { callee := .builtin .append, args := #[s, x], argTypes := #[t, t] })
    (base : Nat) (e : TypeId) (i : TypeInfo) (z : Value) (size bytes : Nat) (ht : P.underlying t = some (.slice e)) (hi : P.info? e = some i) (hz : i.zero = some z)
    (hsize : i.size = size) (hby : i.bytes = bytes) (hzs : z.cells.size = size) (hsz : 0 < size)
    (v : Value) (n : Nat) (xs : List Value) (hs : a.eval s = v) (hown : w.ownsRow base e size v n xs)
    (u : Value) (hx : a.eval x = u) (l : List α) (hr : ReadsR c size w u l) (hcl : ∀ x, (c x).length = size) (hc1 : ∀ x, ∀ u ∈ c x, u.oneCell' = true)
    (h63 : n + l.length ≤ maxLen) (hbytes : (n + l.length) * bytes ≤ 140737488355328) (hbase : base ≤ w.heap.size)
    (h : ∀ v' w', w'.ownsRow base e size v' (n + l.length) (xs ++ l.flatMap c) → w.grownBy w' v.ownBlock → kx (a.put d v') w') :
    if Region.wanted o (yielded ops a.tmps) = true then Oper.wp P o a w kx Q else E := by
  subst hd
  rw [if_pos hw]
  exact wp_append_R s x t ho base e i z size bytes ht hi hz hsize hby hzs hsz v n xs hs hown u hx l hr hcl hc1 h63 hbytes hbase h
theorem find_at {l : List (ByteArray × Int)} {s : ByteArray} {k : Nat} (h : scFindI l s = (k : Int)) : scOkB l = true ∧ k < l.length ∧ scIdx l s = k := by
  unfold scFindI at h
  split at h
  · next hok =>
    obtain ⟨h1, h2⟩ := scPlc_idx (l := l) (s := s) (by omega)
    exact ⟨hok, by omega, by omega⟩
  · omega
theorem drop_facts {l : List (ByteArray × Int)} {s : ByteArray} {k : Nat} (hok : scOkB l = true) (hk : k < l.length) (hi : scIdx l s = k) : scDropR l s = l.take k ++ l.drop (k + 1) ∧ scOkB (scDropR l s) = true ∧ scFindI (scDropR l s) s = -1 := by
  have e : scDropR l s = l.eraseIdx k := by unfold scDropR scWo; rw [if_pos hok, hi]
  have e2 := List.eraseIdx_eq_take_drop_succ l k
  have ha := scOk_all hok
  have hfl := scFl_erase s l ha.2.2
  rw [hi] at hfl
  have hall : scOkB (l.eraseIdx k) = true := by
    refine scOk_mk ?_ ⟨?_, ?_, ?_⟩
    · have := scOk_len hok; have := List.length_eraseIdx_le l k; omega
    · intro x hx; exact ha.1 x (List.mem_of_mem_eraseIdx hx)
    · exact ha.2.1.sublist (List.eraseIdx_sublist l k)
    · exact ha.2.2.sublist (List.eraseIdx_sublist l k)
  refine ⟨by rw [e, e2], by rw [e]; exact hall, ?_⟩
  rw [e]
  unfold scFindI; rw [if_pos hall]
  apply scPlc_none
  intro j hj
  have hm := scAt_mem hj
  rw [← hfl] at hm
  have := (List.mem_filter.1 hm).2
  rw [scNe_iff] at this
  rw [← hfl]
  simpa using this
theorem drop_miss {l : List (ByteArray × Int)} {s : ByteArray} (hok : scOkB l = true) (h : scFindI l s < 0) : scDropR l s = l := by
  unfold scFindI at h; rw [if_pos hok] at h
  unfold scDropR; rw [if_pos hok]; exact scWo_miss h
theorem drop_len (l : List (ByteArray × Int)) (s : ByteArray) (h : l.length ≤ 17) : (scDropR l s).length ≤ 17 := by
  unfold scDropR; split
  · have := scWo_len l s; omega
  · simp
theorem neB (b : Bool) : (b != b) = false := by cases b <;> rfl
theorem eqB (b : Bool) : (b == b) = true := by cases b <;> rfl
set_option maxHeartbeats 8000000 in
theorem walk (v0 : Value) (zs : List Int) (w : World) (h : IsBytes w v0 zs) :
    Calls Try.prog 4 #[v0] w fun e w' => e = .returned (.bool true) ∧ Below w.heap.size w w' := by
  obtain ⟨ao, cap, rfl, hlm⟩ := isLen w v0 zs h
  rcases Int.lt_or_le (1048576 : Int) (zs.length : Int) with h0 | h0
  · go_enter Try.func4, Try.ntmps4
    go_wp2_with fail
    go_ret
    exact ⟨rfl, Below.refl _ _⟩
  go_enter Try.func4, Try.ntmps4
  go_wp2_with fail
  refine (drawDrop_any _ zs _ h).mono ?_
  rintro e w1 ⟨x, O, t, rfl, ho1, hO, ht, hB1⟩
  have hform : 0 < O.length → ∃ g c2, x = .slice (some ⟨g, 0, none⟩) O.length c2 ∧ O.length ≤ c2 ∧ c2 ≤ maxLen := fun hp => by
    rcases ho1.2 with ⟨_, hn⟩ | ⟨g, c2, cur, hv, _, _, hnc, hcm, _⟩
    · omega
    · exact ⟨g, c2, hv, hnc, hcm⟩
  have HFORM : Hid _ := hform
  have hr1 := ownsR_reads scC_len ho1
  clear h ho1 hform
  have hDl := drop_len O t hO
  have hne := neB (scDropB O t)
  have heq := eqB (scDropB O t)
  go_wp2_with fail
  refine (implScoresDrop_any _ O t _ hr1 (by omega)).mono ?_
  rintro e w2 ⟨y, rfl, ho2, hb2⟩
  have hr2 := readsR_kept hr1 hb2
  have hy2 := ownsR_reads scC_len ho2
  have hB2 := step hB1 (Nat.le_refl _) hb2
  clear hr1 hb2 hB1 ho2
  go_wp2_with fail
  refine (specScoresDrop_any _ O t _ hr2 (by omega)).mono ?_
  rintro e w3 ⟨z, rfl, ho3, hb3⟩
  have hr3 := readsR_kept hr2 hb3
  have hy3 := readsR_kept hy2 hb3
  have hz3 := ownsR_reads scC_len ho3
  have hB3 := step hB2 (Nat.le_refl _) hb3
  clear hr2 hb3 hB2 ho3 hy2
  go_wp2_with fail
  refine (qxS_true y z _ _ hy3 hz3 (by omega)).mono ?_
  rintro e w4 ⟨rfl, hb4⟩
  have hr4 := readsR_kept hr3 hb4
  have hy4 := readsR_kept hy3 hb4
  have hz4 := readsR_kept hz3 hb4
  have hB4 := step hB3 (Nat.le_refl _) hb4
  clear hr3 hb4 hB3 hy3 hz3
  go_wp2_with fail
  refine (specScoresOk_any _ O _ hr4 (by omega)).mono ?_
  rintro e w5 ⟨rfl, hb5⟩
  have hr5 := readsR_kept hr4 hb5
  have hy5 := readsR_kept hy4 hb5
  have hz5 := readsR_kept hz4 hb5
  have hB5 := step hB4 (Nat.le_refl _) hb5
  clear hr4 hb5 hB4 hy4 hz4
  cases hok : scOkB O with
  | false =>
    clear hok
    go_wp2_with fail
    refine (qxS_true y z _ _ hy5 hz5 (by omega)).mono ?_
    rintro e w7 ⟨rfl, hb7⟩
    have hB7 := step hB5 (Nat.le_refl _) hb7
    go_wp2_with fail
    go_ret
    exact ⟨rfl, hB7⟩
  | true =>
    clear hz5
    go_wp2_with fail
    refine (implScoresRank_any _ O t _ hr5 (by omega)).mono ?_
    rintro e w6 ⟨he, hb6⟩
    have hr6 := readsR_kept hr5 hb6
    have hy6 := readsR_kept hy5 hb6
    have hB6 := step hB5 (Nat.le_refl _) hb6
    clear hr5 hy5 hB5 hb6
    rcases Int.lt_or_le (scFindI O t) 0 with hneg | hpos
    · subst he
      have hDB : scDropB O t = false := by unfold scDropB; simp; omega
      rw [drop_miss hok hneg] at hy6
      rw [hDB]
      clear hok
      go_wp2_with fail
      refine (qxS_true y x O _ hy6 hr6 (by omega)).mono ?_
      rintro e w7 ⟨rfl, hb7⟩
      have hB7 := step hB6 (Nat.le_refl _) hb7
      go_wp2_with fail
      go_ret
      exact ⟨rfl, hB7⟩
    · obtain ⟨kx, hK⟩ := Int.eq_ofNat_of_zero_le hpos
      obtain ⟨_, hKl, hKi⟩ := find_at hK
      obtain ⟨hD1, hD2, hD3⟩ := drop_facts hok hKl hKi
      have hDB : scDropB O t = true := by unfold scDropB; simp; omega
      rw [hK] at he
      subst he
      rw [hDB]
      obtain ⟨g, c2, hxv, hgb, hgz⟩ := HFORM.out (by omega)
      subst hxv
      unfold maxLen at hgz
      obtain ⟨ay, cy, rfl⟩ := readsR_shape hy6
      obtain ⟨X, hX⟩ : ∃ X, scDropR O t = X := ⟨_, rfl⟩
      rw [hX] at hy6 hD1 hD2 hD3 hDl ⊢
      have hgq : g < w6.heap.size := by
        obtain ⟨g', off', he', hg', _⟩ := sc_some hr6 (by omega)
        simp only [Option.some.injEq, Addr.mk.injEq, and_true] at he'
        omega
      have hrq := readsR_at hr6
      have HA : Hid (ReadsR scC 2 w6 (.slice (some ⟨g, 0, none⟩) kx c2) (O.take kx)) := by
        have := readsR_cut (sz := 2) (c := scC) hgq hgb (by unfold maxLen; exact hgz) hrq (ao := some ⟨g, 0, none⟩) (a := 0) (e := kx) (n := kx) (k := c2) (fun _ => by simp) (by simp) (Nat.zero_le _) (by omega) (by omega) (by omega)
        rw [List.drop_zero] at this; exact this
      obtain ⟨ab, hab⟩ : ∃ ab, (if c2 = kx + 1 then some (⟨g, 0, none⟩ : Addr) else some ⟨g, (kx + 1) * 2, none⟩) = ab := ⟨_, rfl⟩
      have HBc : Hid (ReadsR scC 2 w6 (.slice ab (O.length - (kx + 1)) (c2 - (kx + 1))) (O.drop (kx + 1))) := by
        have := readsR_cut (sz := 2) (c := scC) hgq hgb (by unfold maxLen; exact hgz) hrq (ao := ab) (a := kx + 1) (e := O.length) (n := O.length - (kx + 1)) (k := c2 - (kx + 1)) (fun h => by rw [← hab, if_neg h]; simp) (by rw [← hab]; split <;> simp) (by omega) (Nat.le_refl _) rfl rfl
        rw [List.take_length] at this; exact this
      have hj1 : (kx : Int) ≤ (c2 : Int) := by omega
      have hj2 : (kx : Int) + 1 ≤ (O.length : Int) := by omega
      have hj3 : (O.length : Int) ≤ (c2 : Int) := by omega
      have hwr : IntKind.i64.wrap ((kx : Int) + 1) = (kx : Int) + 1 := wrap_mid (by omega) (by omega)
      have hto : ((kx : Int) + 1).toNat = kx + 1 := by omega
      have hk10 : (0 : Int) ≤ (kx : Int) + 1 := by omega
      have HX1 : Hid (O.take kx ++ O.drop (kx + 1) = X) := hD1.symm
      have HX2 : Hid (scOkB X = true) := hD2
      have HX3 : Hid (scFindI X t = -1) := hD3
      have HHY : Hid (ScReads w6 (.slice ay X.length cy) X) := hy6
      have HB6 : Hid (Below w.heap.size w w6) := hB6
      clear hD1 hD2 hD3 hX hok hK hKi hDB hrq hr6 HFORM hy6 hB6 hpos hne heq
      go_wp2_with fail
      obtain ⟨i0, hi0, hz0, hz1, hz2⟩ := info_parts scInfo
      refine wp_region_held_drew (S := (fun w' => Below w6.heap.size w6 w')) (by kernel_rfl) (by exact (Below.refl _ _).drew) (fun hHeld => ?_)
      refine takeH (i := 0) (d := (some 64)) (v := ?_) rfl rfl (by kernel_rfl) (by kernel_rfl) (by kernel_rfl) (fun _ _ _ h => h) (by kernel_rfl) ?_ (by assumption) ?_
      rotate_left
      · (intro w hSw; (try dsimp only at hSw); go_simp; try with_reducible rfl)
      try simp only [Act.put, List.setIfInBounds_toArray, List.set_cons_succ, List.set_cons_zero]
      refine takeH (i := 1) (d := (some 65)) (v := ?_) rfl rfl (by kernel_rfl) (by kernel_rfl) (by kernel_rfl) (fun _ _ _ h => h) (by kernel_rfl) ?_ (by assumption) ?_
      rotate_left
      · (intro w hSw; (try dsimp only at hSw); go_simp; try with_reducible rfl)
      try simp only [Act.put, List.setIfInBounds_toArray, List.set_cons_succ, List.set_cons_zero]
      refine takeH (i := 2) (d := (some 66)) (v := ?_) rfl rfl (by kernel_rfl) (by kernel_rfl) (by kernel_rfl) (fun _ _ _ h => h) (by kernel_rfl) ?_ (by assumption) ?_
      rotate_left
      · (intro w hSw; (try dsimp only at hSw); go_simp; try with_reducible rfl)
      try simp only [Act.put, List.setIfInBounds_toArray, List.set_cons_succ, List.set_cons_zero]
      refine takeH (i := 3) (d := (some 67)) (v := ?_) rfl rfl (by kernel_rfl) (by kernel_rfl) (by kernel_rfl) (fun _ _ _ h => h) (by kernel_rfl) ?_ (by assumption) ?_
      rotate_left
      · (intro w hSw; (try dsimp only at hSw); go_simp; try with_reducible rfl)
      try simp only [Act.put, List.setIfInBounds_toArray, List.set_cons_succ, List.set_cons_zero]
      refine wpAnyH_ready (rs := [4]) (by kernel_rfl) (by simp) ?_
      refine AllReadyH.cons rfl (fun K hK => ?_) AllReadyH.nil
      go_simp
      refine (implScoresRank_any _ X t _ (readsR_kept HHY.out hHeld) (by omega)).mono ?_; rintro e w3 ⟨he, hb3⟩; rw [HX3.out] at he; subst he; have hk3 := hHeld.trans (hb3.mono hHeld.size)
      refine hK.out _ _ ?_ (fun hHeld => ?_)
      · exact hk3
      clear hK K
      try simp only [Act.put, List.setIfInBounds_toArray, List.set_cons_succ, List.set_cons_zero]
      clear hb3
      refine takeH (i := 5) (d := (some 69)) (v := ?_) rfl rfl (by kernel_rfl) (by kernel_rfl) (by kernel_rfl) (fun _ _ _ h => h) (by kernel_rfl) ?_ (by assumption) ?_
      rotate_left
      · (intro w hSw; (try dsimp only at hSw); go_simp; try with_reducible rfl)
      try simp only [Act.put, List.setIfInBounds_toArray, List.set_cons_succ, List.set_cons_zero]
      refine takeH (i := 6) (d := (some 70)) (v := ?_) rfl rfl (by kernel_rfl) (by kernel_rfl) (by kernel_rfl) (fun _ _ _ h => h) (by kernel_rfl) ?_ (by assumption) ?_
      rotate_left
      · (intro w hSw; (try dsimp only at hSw); go_simp; try with_reducible rfl)
      try simp only [Act.put, List.setIfInBounds_toArray, List.set_cons_succ, List.set_cons_zero]
      refine takeH (i := 7) (d := (some 71)) (v := ?_) rfl rfl (by kernel_rfl) (by kernel_rfl) (by kernel_rfl) (fun _ _ _ h => h) (by kernel_rfl) ?_ (by assumption) ?_
      rotate_left
      · (intro w hSw; (try dsimp only at hSw); go_simp; try with_reducible rfl)
      try simp only [Act.put, List.setIfInBounds_toArray, List.set_cons_succ, List.set_cons_zero]
      refine takeH (i := 8) (d := (some 72)) (v := ?_) rfl rfl (by kernel_rfl) (by kernel_rfl) (by kernel_rfl) (fun _ _ _ h => h) (by kernel_rfl) ?_ (by assumption) ?_
      rotate_left
      · (intro w hSw; (try dsimp only at hSw); go_simp; try with_reducible rfl)
      try simp only [Act.put, List.setIfInBounds_toArray, List.set_cons_succ, List.set_cons_zero]
      refine takeH (i := 10) (d := (some 74)) (v := ?_) rfl rfl (by kernel_rfl) (by kernel_rfl) (by kernel_rfl) (fun _ _ _ h => h) (by kernel_rfl) ?_ (by assumption) ?_
      rotate_left
      · (intro w hSw; (try dsimp only at hSw); go_simp; try with_reducible rfl)
      try simp only [Act.put, List.setIfInBounds_toArray, List.set_cons_succ, List.set_cons_zero]
      refine takeH (i := 11) (d := (some 75)) (v := ?_) rfl rfl (by kernel_rfl) (by kernel_rfl) (by kernel_rfl) (fun _ _ _ h => h) (by kernel_rfl) ?_ (by assumption) ?_
      rotate_left
      · (intro w hSw; (try dsimp only at hSw); go_simp; try with_reducible rfl)
      try simp only [Act.put, List.setIfInBounds_toArray, List.set_cons_succ, List.set_cons_zero]
      refine takeH (i := 12) (d := (some 76)) (v := ?_) rfl rfl (by kernel_rfl) (by kernel_rfl) (by kernel_rfl) (fun _ _ _ h => h) (by kernel_rfl) ?_ (by assumption) ?_
      rotate_left
      · (intro w hSw; (try dsimp only at hSw); go_simp; try with_reducible rfl)
      try simp only [Act.put, List.setIfInBounds_toArray, List.set_cons_succ, List.set_cons_zero]
      refine takeH (i := 14) (d := (some 78)) (v := ?_) rfl rfl (by kernel_rfl) (by kernel_rfl) (by kernel_rfl) (fun _ _ _ h => h) (by kernel_rfl) ?_ (by assumption) ?_
      rotate_left
      · (intro w hSw; (try dsimp only at hSw); go_simp; try with_reducible rfl)
      try simp only [Act.put, List.setIfInBounds_toArray, List.set_cons_succ, List.set_cons_zero]
      refine takeH (i := 15) (d := (some 79)) (v := ?_) rfl rfl (by kernel_rfl) (by kernel_rfl) (by kernel_rfl) (fun _ _ _ h => h) (by kernel_rfl) ?_ (by assumption) ?_
      rotate_left
      · (intro w hSw; (try dsimp only at hSw); go_simp; try with_reducible rfl)
      try simp only [Act.put, List.setIfInBounds_toArray, List.set_cons_succ, List.set_cons_zero]
      refine takeH (i := 16) (d := (some 80)) (v := ?_) rfl rfl (by kernel_rfl) (by kernel_rfl) (by kernel_rfl) (fun _ _ _ h => h) (by kernel_rfl) ?_ (by assumption) ?_
      rotate_left
      · (intro w hSw; (try dsimp only at hSw); go_simp; try with_reducible rfl)
      try simp only [Act.put, List.setIfInBounds_toArray, List.set_cons_succ, List.set_cons_zero]
      refine takeH (i := 17) (d := (some 81)) (v := ?_) rfl rfl (by kernel_rfl) (by kernel_rfl) (by kernel_rfl) (fun _ _ _ h => h) (by kernel_rfl) ?_ (by assumption) ?_
      rotate_left
      · (intro w hSw; (try dsimp only at hSw); go_simp; try with_reducible rfl)
      try simp only [Act.put, List.setIfInBounds_toArray, List.set_cons_succ, List.set_cons_zero]
      refine wpAnyH_ready (rs := [9]) (by kernel_rfl) (by simp) ?_
      refine AllReadyH.cons rfl (fun K hK => ?_) AllReadyH.nil
      go_simp
      refine hK.out _ _ ?_ (fun hHeld => ?_)
      · exact hk3.alloc hk3.size _
      clear hK K
      try simp only [Act.put, List.setIfInBounds_toArray, List.set_cons_succ, List.set_cons_zero]
      have hlit := World.ownsRow_lit (base := w6.heap.size) (e := 25) (size := 2) w3 #[] 0 hk3.size (by simp) rfl
      refine wpAnyH_ready (rs := [13]) (by kernel_rfl) (by simp) ?_
      refine AllReadyH.cons rfl (fun K hK => ?_) AllReadyH.nil
      refine step_append_W (c := scC) (d := some 77) (by kernel_rfl) rfl (.tmp 73) (.tmp 76) 23 rfl w6.heap.size 25 i0 _ 2 24 Try.underlying23 hi0 hz0 hz1 hz2 rfl (by decide) _ _ _ rfl hlit _ rfl (O.take kx) (readsR_kept HA.out hHeld) scC_len scC_one (by unfold maxLen; simp; omega) (by simp; omega) (by have := hHeld.size; omega) ?_; intro x5 w5 ho5 hg5; have hb5 : Below w6.heap.size w6 w5 := Below.grown hHeld hg5 hHeld.size (fun k hk => by cases hk; exact hk3.size)
      refine hK.out _ _ ?_ (fun hHeld => ?_)
      · exact hb5
      clear hK K
      (try simp only [Act.put]); (try simp only [List.setIfInBounds_toArray]); (try simp only [List.set_cons_succ]); (try simp only [List.set_cons_zero])
      refine wpAnyH_ready (rs := [18]) (by kernel_rfl) (by simp) ?_
      refine AllReadyH.cons rfl (fun K hK => ?_) AllReadyH.nil
      refine step_append_W (c := scC) (d := some 82) (by kernel_rfl) rfl (.tmp 77) (.tmp 81) 23 rfl w6.heap.size 25 i0 _ 2 24 Try.underlying23 hi0 hz0 hz1 hz2 rfl (by decide) _ _ _ rfl ho5 _ rfl (O.drop (kx + 1)) (readsR_kept HBc.out hHeld) scC_len scC_one (by unfold maxLen; simp; omega) (by simp; omega) (by have := hHeld.size; omega) ?_; intro x6 w7 ho6 hg6; have hb7 : Below w6.heap.size w6 w7 := Below.grown hb5 hg6 hb5.size (fun k hk => (ho5.lt k hk).1)
      refine hK.out _ _ ?_ (fun hHeld => ?_)
      · exact hb7
      clear hK K
      (try simp only [Act.put]); (try simp only [List.setIfInBounds_toArray]); (try simp only [List.set_cons_succ]); (try simp only [List.set_cons_zero])
      have hox : ScOwns w7 w6.heap.size x6 X := by rw [← HX1.out]; unfold ScOwns OwnsR; rw [List.length_append, List.flatMap_append]; simpa using ho6
      refine wpAnyH_ready (rs := [19]) (by kernel_rfl) (by simp) ?_
      refine AllReadyH.cons rfl (fun K hK => ?_) AllReadyH.nil
      go_simp
      refine (qxS_true _ x6 X _ (readsR_kept HHY.out hHeld) (ownsR_reads scC_len hox) (by omega)).mono ?_; rintro e w8 ⟨rfl, hb8⟩; have hk8 := hHeld.trans (hb8.mono hHeld.size)
      refine hK.out _ _ ?_ (fun hHeld => ?_)
      · exact hk8
      clear hK K
      try simp only [Act.put, List.setIfInBounds_toArray, List.set_cons_succ, List.set_cons_zero]
      clear hb8
      refine takeH (i := 20) (d := (some 84)) (v := ?_) rfl rfl (by kernel_rfl) (by kernel_rfl) (by kernel_rfl) (fun _ _ _ h => h) (by kernel_rfl) ?_ (by assumption) ?_
      rotate_left
      · (intro w hSw; (try dsimp only at hSw); go_simp; try with_reducible rfl)
      try simp only [Act.put, List.setIfInBounds_toArray, List.set_cons_succ, List.set_cons_zero]
      refine takeH (i := 21) (d := (some 85)) (v := ?_) rfl rfl (by kernel_rfl) (by kernel_rfl) (by kernel_rfl) (fun _ _ _ h => h) (by kernel_rfl) ?_ (by assumption) ?_
      rotate_left
      · (intro w hSw; (try dsimp only at hSw); go_simp; try with_reducible rfl)
      try simp only [Act.put, List.setIfInBounds_toArray, List.set_cons_succ, List.set_cons_zero]
      refine takeH (i := 22) (d := (some 86)) (v := ?_) rfl rfl (by kernel_rfl) (by kernel_rfl) (by kernel_rfl) (fun _ _ _ h => h) (by kernel_rfl) ?_ (by assumption) ?_
      rotate_left
      · (intro w hSw; (try dsimp only at hSw); go_simp; try with_reducible rfl)
      try simp only [Act.put, List.setIfInBounds_toArray, List.set_cons_succ, List.set_cons_zero]
      refine wpAnyH_ready (rs := [23]) (by kernel_rfl) (by simp) ?_
      refine AllReadyH.cons rfl (fun K hK => ?_) AllReadyH.nil
      go_simp
      refine (implScoresOk_any _ X _ (readsR_kept HHY.out hHeld) (by omega)).mono ?_; rintro e w9 ⟨he, hb9⟩; rw [HX2.out] at he; subst he; have hk9 := hHeld.trans (hb9.mono hHeld.size)
      refine hK.out _ _ ?_ (fun hHeld => ?_)
      · exact hk9
      clear hK K
      try simp only [Act.put, List.setIfInBounds_toArray, List.set_cons_succ, List.set_cons_zero]
      refine takeH (i := 24) (d := (some 88)) (v := ?_) rfl rfl (by kernel_rfl) (by kernel_rfl) (by kernel_rfl) (fun _ _ _ h => h) (by kernel_rfl) ?_ (by assumption) ?_
      rotate_left
      · (intro w hSw; (try dsimp only at hSw); go_simp; try with_reducible rfl)
      try simp only [Act.put, List.setIfInBounds_toArray, List.set_cons_succ, List.set_cons_zero]
      refine takeH (i := 25) (d := (some 2)) (v := ?_) rfl rfl (by kernel_rfl) (by kernel_rfl) (by kernel_rfl) (fun _ _ _ h => h) (by kernel_rfl) ?_ (by assumption) ?_
      rotate_left
      · (intro w hSw; (try dsimp only at hSw); go_simp; try with_reducible rfl)
      try simp only [Act.put, List.setIfInBounds_toArray, List.set_cons_succ, List.set_cons_zero]
      refine wpAnyH_done (by kernel_rfl) ?_ _
      go_wp2_with fail
      go_ret
      exact ⟨rfl, step HB6.out (Nat.le_refl _) hk9⟩

set_option maxRecDepth 100000 in
theorem lifted (os : Os) (started : os.Started) (H : Type) (enc : TypeId × Value → H) :
    ReturnsInHanded {} Try.checked os 4 .any (Rows.fnScoresDropSpec.pre6 enc Try.prog Try.f4 Rows.fnScoresDropRow.domain false) (Rows.fnScoresDropSpec.post enc Try.prog Try.f4 false true false false) := by
  refine returnsInHanded_of_change (C := Try.checked) own started (by kernel_rfl) Try.func4
    (ChangeSpec.witness6 (enc := enc) (C := Try.checked) false ⟨#[], #[.slice none 0 0], []⟩ 8 (by kernel_rfl) (by kernel_rfl) (by kernel_rfl) (by kernel_rfl)) ?_
  intro W base args ds gs before hval0 hW hcnd _
  have hval : ∀ (j : Nat) t v, Try.f4.params[j]? = some t → args[j]? = some v → Value.okWide Try.prog W .any base t v := hval0
  have hW' := hW
  obtain ⟨p, q, hA0, hV, rfl, hfz, hnd⟩ := hW
  have hA : DataW.TrodAll enc Try.prog W 0 (fun _ => true) true Try.f4.params.toList args.toList ds p := hA0
  rw [Try.params4] at hA hval
  obtain ⟨v0, vs0, d0, ds0, p0, q0, hargs, rfl, rfl, h0, r0⟩ := trodAll_cons hA
  obtain ⟨rfl, rfl, rfl⟩ := trodAll_nil r0
  obtain rfl : args = #[v0] := by cases args; simp_all
  obtain ⟨rfl, rfl⟩ := trodVars_none hV
  obtain ⟨a0, len0, cap0, rfl⟩ := okWide_slice Try.underlying22 (hval 0 22 v0 rfl rfl)
  have k0 := h0
  have lt0 : ∀ x ∈ p0, x.block < W.heap.size := by obtain ⟨m, hm⟩ := k0; exact DataW.trod_lt m _ _ _ hm
  obtain ⟨z0, w0⟩ : ∃ zs, IsBytes W (.slice a0 len0 cap0) zs := by
    obtain ⟨fuel, hf⟩ := h0
    rcases open_ints Try.underlying22 Try.underlying5 (by kernel_rfl) hf with ⟨hcs, _⟩ | ⟨x, ln, cp, zs, hcs, _, hl, hm, hz, _, hcell, hwz⟩
    · exact bytes_of_none (by simpa [Value.cells] using hcs)
    · exact bytes_of_some (by simpa [Value.cells] using hcs) hl hm (by simpa using hz) hcell hwz
  clear hA0 hval0
  refine (walk (.slice a0 len0 cap0) z0 W w0).mono fun e W' ⟨he, bel⟩ => ?_
  subst he
  exact ⟨_, rfl, _, _, _, [], _, [], hW', trodAll_mk1 (shut_bool Try.underlying4 _), (trodAll_cons_mk (Below.trod laidOut (by kernel_rfl) (of_decide_eq_true (by kernel_rfl)) k0 bel lt0) trodAll_mk0), rfl, bel.frame _, fun h => by cases h⟩

theorem over : Rows.fnScoresDropRow.holds Try.pinned (OpenSpec.ofChange Rows.fnScoresDropSpec) :=
  OpenClaim.holds_of_wide 4 Try.f4 rfl rfl rfl rfl rfl rfl rfl ⟨rfl, rfl, rfl, rfl, rfl⟩ rfl rfl rfl rfl rfl (by kernel_rfl) Try.func4 (by kernel_rfl)
    (of_decide_eq_true (by kernel_rfl)) (by unfold Func.isWrapper; first | (rw [if_pos (by decide +kernel)]; kernel_rfl) | (rw [if_neg (by decide +kernel)]; exact ⟨rfl, rfl⟩))
    (fun os started H enc _ => lifted os started H enc)

theorem proved : Rows.FnScoresDropSaid := over
end Go.Proofs.Ytkoheomkledleaa.fnScoresDrop
