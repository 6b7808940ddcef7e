/- Several texts in one: DpA DpB DpC. -/
import Derived.Test.YtooomgffcamijaaGreatGrW1
import Derived.Test.YtooomgffcamijaaGreatBxDl
import Derived.Test.YtooomgffcamijaaGreatTk
import Derived.Maps.AppendAt
import Derived.Laws.AppendOwnNone
import Derived.Lib.SliceRun
import Derived.Test.YtooomgffcamijaaGreatEnW3
import Derived.Test.YtooomgffcamijaaGreatEnN
/- slices.Delete of one row of entries, from a row of one's own; slices.Clone of rows of entries. -/
namespace Go.Proofs.YtooomgffcamijaaGreat
open Go.RowKit

theorem esZero : ∀ w, (zeroValue 53).run Tryz.prog w = .ok (.agg #[.string ByteArray.empty, .int .i64 0, .int .i64 0, .string ByteArray.empty, .slice none 0 0, .slice none 0 0, .slice none 0 0]) w := Tryz.zeroValue53

theorem run_clear_seven {P : Program} (w : World) (t e ty : TypeId) (z0 z1 z2 z3 z4 z5 z6 : Value) (ht : P.underlying t = some (.slice e)) (hv : ∀ w, (zeroValue e).run P w = .ok (.agg #[z0, z1, z2, z3, z4, z5, z6]) w) (h1 : ∀ v ∈ [z0, z1, z2, z3, z4, z5, z6], v.oneCell' = true) (hcl : (Builtin.zeroCells (Value.agg #[z0, z1, z2, z3, z4, z5, z6]).cells 1).toList = [z0, z1, z2, z3, z4, z5, z6]) (b o c : Nat)
    (hc : ∀ j, j < 7 → (w.cell? ⟨b, o + j, none⟩).isSome = true) (hf : ∀ j, j < 7 → w.frozen? ⟨b, o + j, none⟩ = false) :
    (Builtin.clear_ #[t] ty #[.slice (some ⟨b, o, none⟩) 1 c]).run P w = .ok (.tuple #[]) (((((((w.setCell ⟨b, o, none⟩ z0).setCell ⟨b, o + 1, none⟩ z1).setCell ⟨b, o + 2, none⟩ z2).setCell ⟨b, o + 3, none⟩ z3).setCell ⟨b, o + 4, none⟩ z4).setCell ⟨b, o + 5, none⟩ z5).setCell ⟨b, o + 6, none⟩ z6) := by
  have hst := run_storeCells_cells (P := P) b o [z0, z1, z2, z3, z4, z5, z6] 0 w (fun j hj => by rw [Nat.add_zero]; exact hc j hj) (fun j hj => by rw [Nat.add_zero]; exact hf j hj) h1
  simp only [Nat.add_zero] at hst
  simp [Builtin.clear_, run_underlying ht, hv, hcl, hst]
  rfl

set_option maxHeartbeats 8000000 in
set_option maxRecDepth 100000 in
theorem esDelete_any (g cap i base : Nat) (l : List Row) (w : World) (ho : EsOwns w base (.slice (some ⟨g, 0, none⟩) l.length cap) l) (hi : i < l.length) (hlen : l.length ≤ 1048576) :
    Calls Tryz.prog 59 #[.slice (some ⟨g, 0, none⟩) l.length cap, .int .i64 (i : Int), .int .i64 ((i : Int) + 1)] w fun e w' => e = .returned (.slice (some ⟨g, 0, none⟩) (l.length - 1) cap) ∧ EsOwns w' base (.slice (some ⟨g, 0, none⟩) (l.length - 1) cap) (l.eraseIdx i) ∧ w.grownBy w' (some g) := by
  obtain ⟨i0, hi0, hz0, hz1, hz2⟩ := info_parts enInfo
  have hod : EsOwns w.drew base (.slice (some ⟨g, 0, none⟩) l.length cap) l := World.ownsRow.drew ho
  obtain ⟨cur, hcur, hfit, hmv⟩ := own_moved rowC_len hod hi
  have hcap : l.length ≤ cap ∧ cap ≤ maxLen := by
    rcases ho.2 with ⟨h, _⟩ | ⟨g', cap', cur', hv, _, _, hnc, hcm, _⟩
    · cases h
    · simp only [Value.slice.injEq, Option.some.injEq, Addr.mk.injEq, and_true, true_and] at hv
      obtain ⟨rfl, rfl⟩ := hv
      exact ⟨hnc, hcm⟩
  obtain ⟨hnc, hcm⟩ := hcap
  unfold maxLen at hcm
  obtain ⟨A, hA, hnews⟩ : ∃ A : Addr, (if cap = i + 1 then some (⟨g, 0, none⟩ : Addr) else some ⟨g, (i + 1) * 7, none⟩) = some A ∧ Hid (∀ j u, ((l.drop (i + 1)).flatMap rowC)[j]? = some u → w.drew.cell? (A.add j) = some u) := by
    by_cases h : cap = i + 1
    · refine ⟨⟨g, 0, none⟩, by simp [h], fun j u hu => ?_⟩
      have h0 : l.drop (i + 1) = [] := List.drop_eq_nil_iff.2 (by omega)
      rw [h0] at hu; simp at hu
    · refine ⟨⟨g, (i + 1) * 7, none⟩, by simp [h], fun j u hu => ?_⟩
      rw [Addr.add_mid]
      rw [← flat_drop rowC_len, List.getElem?_drop] at hu
      have hlt := (List.getElem?_eq_some_iff.1 hu).1
      rw [flat_len rowC_len] at hlt
      rw [World.ownsRow.cellAt hod _ hlt]; exact hu
  obtain ⟨W1, hW1⟩ : ∃ W1, W1 = w.drew.setRow g (cur.toList.take (i * 7) ++ (l.drop (i + 1)).flatMap rowC ++ cur.toList.drop (i * 7 + ((l.drop (i + 1)).flatMap rowC).length)).toArray := ⟨_, rfl⟩
  rw [← hW1] at hmv
  have hgr1 : w.grownBy W1 (some g) := by rw [hW1]; exact ⟨rfl, rfl, rfl, (grown_setRow (w := w.drew) _).size, fun k hk hne => (grown_setRow (w := w.drew) _).block k hk hne⟩
  have HW1 : Hid _ := hW1
  clear hW1
  have HN : Hid (((l.drop (i + 1)).flatMap rowC).length = (l.length - (i + 1)) * 7) := by show _ = _; rw [flat_len rowC_len]; simp
  have HC1 : Hid (∀ u ∈ (l.drop (i + 1)).flatMap rowC, u.oneCell' = true) := flat_one rowC_one _
  have HCUR : Hid (w.drew.heap[g]? = some (.cells cur 53 (0, 0))) := hcur
  have HFIT : Hid (i * 7 + ((l.drop (i + 1)).flatMap rowC).length ≤ cur.size) := hfit
  -- what is cleared behind it
  have hLl : (l.eraseIdx i ++ l.drop (l.length - 1)).length = l.length := by
    rw [List.length_append, List.length_eraseIdx, if_pos hi, List.length_drop]; omega
  have hlast : (l.eraseIdx i ++ l.drop (l.length - 1))[l.length - 1]? = some (esAt l (l.length - 1)) := by
    rw [List.getElem?_append_right (by rw [List.length_eraseIdx, if_pos hi]; exact Nat.le_refl _), List.length_eraseIdx, if_pos hi, Nat.sub_self, List.getElem?_drop, Nat.add_zero, esAt_some (by omega)]
  have hcutL : (l.eraseIdx i ++ l.drop (l.length - 1)).take (l.length - 1) = l.eraseIdx i := by
    rw [List.take_append_of_le_length (by rw [List.length_eraseIdx, if_pos hi]; exact Nat.le_refl _), List.take_of_length_le (by rw [List.length_eraseIdx, if_pos hi]; exact Nat.le_refl _)]
  generalize l.eraseIdx i ++ l.drop (l.length - 1) = L at *
  have hmv : EsOwns W1 base (.slice (some ⟨g, 0, none⟩) L.length cap) L := by rw [hLl]; exact hmv
  have hdj : ∀ j, j < 7 → (W1.cell? ⟨g, (l.length - 1) * 7 + j, none⟩).isSome = true := fun j hj => by
    obtain ⟨u, hu⟩ : ∃ u, (rowC (esAt l (l.length - 1)))[j]? = some u := ⟨_, List.getElem?_eq_getElem (by rw [rowC_len]; exact hj)⟩
    rw [cellR rowC_len hmv hlast j u hu]; rfl
  have hfj : ∀ j, j < 7 → W1.frozen? ⟨g, (l.length - 1) * 7 + j, none⟩ = false := fun j _ => World.ownsRow.frozenAt hmv ((l.length - 1) * 7 + j)
  have hcl := fun (ty : TypeId) (cc : Nat) => run_clear_seven (P := Tryz.prog) W1 26 53 ty (.string ByteArray.empty) (.int .i64 0) (.int .i64 0) (.string ByteArray.empty) (.slice none 0 0) (.slice none 0 0) (.slice none 0 0) Tryz.underlying26 esZero (by intro v hv; simp only [List.mem_cons, List.not_mem_nil, or_false] at hv; rcases hv with rfl | rfl | rfl | rfl | rfl | rfl | rfl <;> rfl) (by kernel_rfl) g ((l.length - 1) * 7) cc hdj hfj
  have hst1 := esStored hmv (l.length - 1) _ rowZ hlast
  have hg7 : W1.grownBy (((((((W1.setCell ⟨g, (l.length - 1) * 7, none⟩ (.string ByteArray.empty)).setCell ⟨g, (l.length - 1) * 7 + 1, none⟩ (.int .i64 0)).setCell ⟨g, (l.length - 1) * 7 + 2, none⟩ (.int .i64 0)).setCell ⟨g, (l.length - 1) * 7 + 3, none⟩ (.string ByteArray.empty)).setCell ⟨g, (l.length - 1) * 7 + 4, none⟩ (.slice none 0 0)).setCell ⟨g, (l.length - 1) * 7 + 5, none⟩ (.slice none 0 0)).setCell ⟨g, (l.length - 1) * 7 + 6, none⟩ (.slice none 0 0)) (some g) :=
    grown_two (grown_two (grown_two (grown_two (grown_two (grown_two (grown_setCell _ _ _) (grown_setCell _ _ _)) (grown_setCell _ _ _)) (grown_setCell _ _ _)) (grown_setCell _ _ _)) (grown_setCell _ _ _)) (grown_setCell _ _ _)
  have hst : EsOwns (((((((W1.setCell ⟨g, (l.length - 1) * 7, none⟩ (.string ByteArray.empty)).setCell ⟨g, (l.length - 1) * 7 + 1, none⟩ (.int .i64 0)).setCell ⟨g, (l.length - 1) * 7 + 2, none⟩ (.int .i64 0)).setCell ⟨g, (l.length - 1) * 7 + 3, none⟩ (.string ByteArray.empty)).setCell ⟨g, (l.length - 1) * 7 + 4, none⟩ (.slice none 0 0)).setCell ⟨g, (l.length - 1) * 7 + 5, none⟩ (.slice none 0 0)).setCell ⟨g, (l.length - 1) * 7 + 6, none⟩ (.slice none 0 0)) base (.slice (some ⟨g, 0, none⟩) L.length cap) (L.set (l.length - 1) rowZ) := hst1
  clear hst1
  have hfin := own_short rowC_len (n := l.length - 1) (by rw [List.length_set]; exact hst) (by rw [List.length_set, hLl]; omega)
  rw [List.take_set_of_le (Nat.le_refl _), hcutL] at hfin
  have HFIN : Hid _ := hfin
  have HG : Hid _ := hg7
  clear hcutL hfin hst hg7 hlast hLl hmv hdj hfj hcur hfit hod ho
  obtain ⟨n, hn⟩ : ∃ n, l.length = n + 1 := ⟨l.length - 1, by omega⟩
  rw [hn, Nat.add_sub_cancel] at HFIN HG hcl
  rw [hn, Nat.add_sub_cancel]
  rw [hn] at HN hnc hi hlen
  have hin : i ≤ n := by omega
  have hp0 : (0 : Int) ≤ (i : Int) + 1 := by omega
  have hp1 : (i : Int) + 1 ≤ (n : Int) + 1 := by omega
  have hp2 : (i : Int) ≤ (cap : Int) := by omega
  have hp3 : (n : Int) + 1 ≤ (cap : Int) := by omega
  have hp4 : ((i : Int) == (i : Int) + 1) = false := by simp; omega
  have hp5 : i + (n - i) = n := by omega
  have HN2 : Hid (((l.drop (i + 1)).flatMap rowC).length = (n - i) * 7) := by have := HN.out; rw [Nat.add_sub_add_right] at this; exact this
  have hp6 : (n : Int) ≤ (n : Int) + 1 := by omega
  have hp7 : (i : Int) ≤ (i : Int) + 1 := by omega
  have hp8 : ((i : Int) + 1).toNat = i + 1 := by omega
  clear hn
  go_enter Tryz.func59, Tryz.ntmps59
  go_wp2_with fail
  refine wp_region_held_drew (S := (fun _ => True)) (by kernel_rfl) (by trivial) (fun hHeld => ?_)
  refine takeH (i := 0) (d := (some 20)) (v := ?_) rfl rfl (by kernel_rfl) (by kernel_rfl) (by kernel_rfl) (fun _ _ _ h => h) (by kernel_rfl) ?_ (by assumption) ?_
  rotate_left
  · (intro w hSw; (try dsimp only at hSw); go_simp; try with_reducible rfl)
  try simp only [Act.put, List.setIfInBounds_toArray, List.set_cons_succ, List.set_cons_zero]
  refine takeH (i := 1) (d := (some 21)) (v := ?_) rfl rfl (by kernel_rfl) (by kernel_rfl) (by kernel_rfl) (fun _ _ _ h => h) (by kernel_rfl) ?_ (by assumption) ?_
  rotate_left
  · (intro w hSw; (try dsimp only at hSw); go_simp; try with_reducible rfl)
  try simp only [Act.put, List.setIfInBounds_toArray, List.set_cons_succ, List.set_cons_zero]
  refine takeH (i := 2) (d := (some 22)) (v := ?_) rfl rfl (by kernel_rfl) (by kernel_rfl) (by kernel_rfl) (fun _ _ _ h => h) (by kernel_rfl) ?_ (by assumption) ?_
  rotate_left
  · (intro w hSw; (try dsimp only at hSw); go_simp; try with_reducible rfl)
  try simp only [Act.put, List.setIfInBounds_toArray, List.set_cons_succ, List.set_cons_zero]
  refine takeH (i := 3) (d := (some 23)) (v := ?_) rfl rfl (by kernel_rfl) (by kernel_rfl) (by kernel_rfl) (fun _ _ _ h => h) (by kernel_rfl) ?_ (by assumption) ?_
  rotate_left
  · (intro w hSw; (try dsimp only at hSw); go_simp; try with_reducible rfl)
  try simp only [Act.put, List.setIfInBounds_toArray, List.set_cons_succ, List.set_cons_zero]
  refine takeH (i := 4) (d := (some 24)) (v := ?_) rfl rfl (by kernel_rfl) (by kernel_rfl) (by kernel_rfl) (fun _ _ _ h => h) (by kernel_rfl) ?_ (by assumption) ?_
  rotate_left
  · (intro w hSw; (try dsimp only at hSw); go_simp; try with_reducible rfl)
  try simp only [Act.put, List.setIfInBounds_toArray, List.set_cons_succ, List.set_cons_zero]
  refine takeH (i := 5) (d := (some 25)) (v := ?_) rfl rfl (by kernel_rfl) (by kernel_rfl) (by kernel_rfl) (fun _ _ _ h => h) (by kernel_rfl) ?_ (by assumption) ?_
  rotate_left
  · (intro w hSw; (try dsimp only at hSw); go_simp; try with_reducible rfl)
  try simp only [Act.put, List.setIfInBounds_toArray, List.set_cons_succ, List.set_cons_zero]
  refine wpAnyH_ready (rs := [6]) (by kernel_rfl) (by simp) ?_
  refine AllReadyH.cons rfl (fun K hK => ?_) AllReadyH.nil
  refine step_append_row rfl (.tmp 22) (.tmp 25) 26 rfl 53 i0 7 Tryz.underlying26 hi0 hz1 g i cap cur HCUR.out rfl A (n - i) (cap - (i + 1)) ((l.drop (i + 1)).flatMap rowC) rfl HN2.out hnews.out HC1.out (by omega) HFIT.out ?_; rw [← HW1.out]
  refine hK.out _ _ ?_ (fun hHeld => ?_)
  · trivial
  clear hK K
  (try simp only [Act.put]); (try simp only [List.setIfInBounds_toArray]); (try simp only [List.set_cons_succ]); (try simp only [List.set_cons_zero])
  refine takeH (i := 7) (d := (some 0)) (v := ?_) rfl rfl (by kernel_rfl) (by kernel_rfl) (by kernel_rfl) (fun _ _ _ h => h) (by kernel_rfl) ?_ (by assumption) ?_
  rotate_left
  · (intro w hSw; (try dsimp only at hSw); go_simp; try with_reducible rfl)
  (try simp only [Act.put]); (try simp only [List.setIfInBounds_toArray]); (try simp only [List.set_cons_succ]); (try simp only [List.set_cons_zero])
  refine wpAnyH_done (by kernel_rfl) ?_ _
  clear hHeld hA HCUR HFIT HC1 HN HN2 HW1 hnews hi0 hz0 hz1 hz2
  go_wp2_with fail
  go_ret
  exact ⟨rfl, HFIN.out, grown_two hgr1 HG.out⟩
set_option maxHeartbeats 4000000 in
theorem esClone_any (v : Value) (l : List Row) (w : World) (hr : ReadsR rowC 7 w v l) (hlen : l.length ≤ 1048576) :
    Calls Tryz.prog 58 #[v] w fun e w' => ∃ v', e = .returned v' ∧ EsOwns w' w.heap.size v' l ∧ Below w.heap.size w w' := by
  obtain ⟨i0, hi, hz0, hz1, hz2⟩ := info_parts enInfo
  have hown0 : (w.alloc (.cells #[] 53)).ownsRow w.heap.size 53 7 (.slice (some ⟨w.heap.size, 0, none⟩) 0 0) 0 [] := World.ownsRow_lit w #[] 0 (Nat.le_refl _) (by simp) rfl
  have hB0 : Below w.heap.size w (w.alloc (.cells #[] 53)) := (Below.refl _ _).alloc (Nat.le_refl _) _
  have hnil := fun (w : World) (a : Option Addr) (n c : Nat) => Lib.run_eql_slice_nil (P := Tryz.prog) w 26 53 a n c 0 0 Tryz.underlying26
  rcases hr with ⟨rfl, ao, cap, rfl, hcap⟩ | ⟨h0, b, off, cap, rfl, hb, hnc, hcm, hc⟩
  · cases ao with
    | none =>
      obtain rfl := hcap rfl
      go_enter Tryz.func58, Tryz.ntmps58
      go_wp2_with fail
      go_ret
      exact ⟨_, rfl, World.ownsRow_nil _ _ _ _, Below.refl _ _⟩
    | some a =>
      go_enter Tryz.func58, Tryz.ntmps58
      go_wp2_with (at_builtin; refine wpList_append_own _ rfl (.tmp 5) (.tmp 6) 26 rfl w.heap.size 53 i0 _ 7 _ Tryz.underlying26 hi hz0 hz1 hz2 rfl (by decide) _ _ _ rfl hown0 a 0 cap [] rfl rfl (by simp) (by simp) (by simp) (by simp) (by simp) ?_)
      intro v' w1 hown hgrow _
      go_wp2_with fail
      go_ret
      exact ⟨_, rfl, hown, hB0.grown hgrow (by simp) (fun k hk => (hown0.lt k hk).1)⟩
  · have hc' : ∀ k x, l[k]? = some x → (w.alloc (.cells #[] 53)).rangeAt b (off + k * 7) (rowC x) := fun k x hk => rangeAt_keptB (hc k x hk) hB0 hb
    go_enter Tryz.func58, Tryz.ntmps58
    go_wp2_with (at_builtin; refine wpList_append_own _ rfl (.tmp 5) (.tmp 6) 26 rfl w.heap.size 53 i0 _ 7 120 Tryz.underlying26 hi hz0 hz1 hz2 rfl (by decide) _ _ _ rfl hown0 ⟨b, off, none⟩ l.length cap (l.flatMap rowC) rfl (flat_len rowC_len l) (rows_at rowC_len hc') (flat_one rowC_one l) (by unfold maxLen; omega) (by omega) (by simp) ?_)
    intro v' w1 hown hgrow _
    have ho : EsOwns w1 w.heap.size v' l := by unfold EsOwns OwnsR; simpa using hown
    clear hown
    go_wp2_with fail
    go_ret
    exact ⟨_, rfl, ho, hB0.grown hgrow (by simp) (fun k hk => (hown0.lt k hk).1)⟩
end Go.Proofs.YtooomgffcamijaaGreat
/- A table of entries without a row; a base without an entry. -/
namespace Go.Proofs.YtooomgffcamijaaGreat
open Go.RowKit

def esWo (l : List Row) (s : ByteArray) : List Row := l.eraseIdx (esIdx l s)
theorem esWo_miss {l : List Row} {s : ByteArray} (h : esPlc l s < 0) : esWo l s = l := by
  unfold esWo
  rw [List.eraseIdx_of_length_le]
  unfold esPlc at h
  split at h
  · omega
  · next h' => omega
theorem esPlc_idx {l : List Row} {s : ByteArray} (h : 0 ≤ esPlc l s) : esPlc l s = (esIdx l s : Int) ∧ esIdx l s < l.length := by
  unfold esPlc at h ⊢
  split at h
  · next h' => rw [if_pos h']; exact ⟨rfl, h'⟩
  · omega
theorem esWo_len (l : List Row) (s : ByteArray) : (esWo l s).length ≤ l.length := by unfold esWo; exact List.length_eraseIdx_le _ _

theorem esw_res {w : World} {tmps : Array Value} {g : Nat} {x y0 y1 y2 y3 : Value} {bb : Bool} (hp : tmps[4]?.getD undef = .pointer (some ⟨g, 0, none⟩)) (hb : tmps[5]?.getD undef = .bool bb)
    (hg : w.rangeAt g 0 [x, y0, y1, y2, y3]) : (results Tryz.f30 tmps).run Tryz.prog w = .ok (.tuple #[.agg #[x, y0, y1, y2, y3], .bool bb]) w := by
  have hl := run_loadVar_mid (P := Tryz.prog) w g 0 61 [x, y0, y1, y2, y3] _ hg Tryz.underlying61 rfl (by kernel_rfl)
  simp [results, Tryz.results30, asAddr, hp, hb, hl]

set_option maxHeartbeats 8000000 in
set_option maxRecDepth 20000 in
theorem esWithout_any (v : Value) (l : List Row) (s : ByteArray) (B : Nat) (w : World) (hr : EsReads w v l) (hlen : l.length ≤ 1048576) :
    Calls Tryz.prog 30 #[.agg #[v, .int .i64 12, .func (.func 55) #[] #[], .func (.func 56) #[] #[], .func (.func 52) #[] #[.pointer (some ⟨B, 0, none⟩)]], .string s] w fun e w' => ∃ x, e = .returned (.tuple #[.agg #[x, .int .i64 12, .func (.func 55) #[] #[], .func (.func 56) #[] #[], .func (.func 52) #[] #[.pointer (some ⟨B, 0, none⟩)]], .bool (decide (0 ≤ esPlc l s))]) ∧ EsOwns w' w.heap.size x (esWo l s) ∧ Below w.heap.size w w' := by
  have hrs := fun (k : Nat) (w : World) (a : Addr) => run_store Tryz.prog w a (.func (.func k) #[] #[]) .plain rfl
  have hrt := fun (p : Option Addr) (w : World) (a : Addr) => run_store Tryz.prog w a (.func (.func 52) #[] #[.pointer p]) .plain rfl
  obtain ⟨ao, cap, rfl⟩ := readsR_shape hr.rows
  obtain ⟨W0, hW0⟩ : ∃ W0, (w.alloc (.cells #[.slice ao l.length cap, .int .i64 12, .func (.func 55) #[] #[], .func (.func 56) #[] #[], .func (.func 52) #[] #[.pointer (some ⟨B, 0, none⟩)]] 61)).alloc (.cells #[.slice none 0 0, .int .i64 0, .nilFunc, .nilFunc, .nilFunc] 61) = W0 := ⟨_, rfl⟩
  have hB0 : Below w.heap.size w W0 := by rw [← hW0]; exact ((Below.refl _ w).alloc (Nat.le_refl _) _).alloc (by simp) _
  have hz0 : w.heap.size + 2 ≤ W0.heap.size := by rw [← hW0]; simp
  have hbx : Box5 W0 w.heap.size (.slice ao l.length cap) (.int .i64 12) (.func (.func 55) #[] #[]) (.func (.func 56) #[] #[]) (.func (.func 52) #[] #[.pointer (some ⟨B, 0, none⟩)]) := by
    rw [← hW0]; exact box5_below (box5_row (heap_alloc_new w _)) ((Below.refl (w.heap.size + 1) _).alloc (by simp) _) (by omega)
  have hby : Box5 W0 (w.heap.size + 1) (.slice none 0 0) (.int .i64 0) .nilFunc .nilFunc .nilFunc := by
    rw [← hW0]; exact box5_row (heap_alloc2_new w _ _)
  have e0 := hbx.c0
  have e1 := hbx.c1
  have e2 := hbx.c2
  have e3 := hbx.c3
  have e4 := hbx.c4
  go_enter Tryz.func30, Tryz.ntmps30
  go_wp2_with fail
  clear hW0 e0 e1 e2 e3 e4
  refine (esPlace_any _ l s B _ (esReads_kept hr hB0) hlen).mono ?_
  rintro e w1 ⟨rfl, hb1⟩
  have hz1 := hb1.size
  have hB1 := hB0.trans (hb1.mono hB0.size)
  have hbx1 := box5_below hbx hb1 (by omega)
  have hby1 := box5_below hby hb1 (by omega)
  have hc0 := hbx1.c0
  clear hbx hby hB0 hb1
  go_wp2_with fail
  refine (esClone_any _ l _ (readsR_kept hr.rows hB1) hlen).mono ?_
  rintro e w2 ⟨x, rfl, ho2, hb2⟩
  have hz2 := hb2.size
  have hB2 := hB1.trans (hb2.mono hB1.size)
  have hbx2 := box5_below hbx1 hb2 (by omega)
  have hby2 := box5_below hby1 hb2 (by omega)
  clear hbx1 hby1 hB1 hb2 hc0
  have hc2 := hbx2.c0
  have hf2 := hbx2.f0
  have ho3 := own_setCell ho2 ⟨w.heap.size, 0, none⟩ x (by show w.heap.size < _; omega)
  have hbx3 := box5_set0 hbx2 x
  have hby3 : Box5 (w2.setCell ⟨w.heap.size, 0, none⟩ x) (w.heap.size + 1) (.slice none 0 0) (.int .i64 0) .nilFunc .nilFunc .nilFunc := box5_kept hby2 (grown_setCell w2 ⟨w.heap.size, 0, none⟩ x) (by simp)
  have hB3 : Below w.heap.size w (w2.setCell ⟨w.heap.size, 0, none⟩ x) := hB2.setCell (Nat.le_refl _) _
  have hz3 : w2.heap.size ≤ (w2.setCell ⟨w.heap.size, 0, none⟩ x).heap.size := (grown_setCell w2 ⟨w.heap.size, 0, none⟩ x).size
  obtain ⟨ax, cx, hxv⟩ := readsR_shape (ownsR_reads rowC_len ho2)
  subst hxv
  clear ho2 hbx2 hby2 hB2
  rcases Int.lt_or_le (esPlc l s) 0 with hneg | hpos
  · have HW : Hid (esWo l s = l) := esWo_miss hneg
    have HD : Hid (decide (0 ≤ esPlc l s) = false) := by show _ = _; simp; omega
    obtain ⟨W3, hW3⟩ : ∃ W3, w2.setCell ⟨w.heap.size, 0, none⟩ (.slice ax l.length cx) = W3 := ⟨_, rfl⟩
    rw [hW3] at ho3 hbx3 hby3 hB3 hz3
    have e0 := hbx3.c0
    have e1 := hbx3.c1
    have e2 := hbx3.c2
    have e3 := hbx3.c3
    have e4 := hbx3.c4
    have d0 := hby3.c0
    have d1 := hby3.c1
    have d2 := hby3.c2
    have d3 := hby3.c3
    have d4 := hby3.c4
    have g0 := hby3.f0
    have g1 := hby3.f1
    have g2 := hby3.f2
    have g3 := hby3.f3
    have g4 := hby3.f4
    go_wp2_with fail
    refine bodyPost_ret (esw_res rfl rfl (box5_set5 hby3 _ _ _ _ _)) rfl ⟨_, by rw [HD.out], ?_, ?_⟩
    · rw [HW.out]
      exact ownsR_base (own_setCell (own_setCell (own_setCell (own_setCell (own_setCell ho3 _ _ (by show w.heap.size + 1 < _; omega)) _ _ (by show w.heap.size + 1 < _; omega)) _ _ (by show w.heap.size + 1 < _; omega)) _ _ (by show w.heap.size + 1 < _; omega)) _ _ (by show w.heap.size + 1 < _; omega)) (by omega)
    · exact ((((hB3.setCell (by show _ ≤ w.heap.size + 1; omega) _).setCell (by show _ ≤ w.heap.size + 1; omega) _).setCell (by show _ ≤ w.heap.size + 1; omega) _).setCell (by show _ ≤ w.heap.size + 1; omega) _).setCell (by show _ ≤ w.heap.size + 1; omega) _
  · obtain ⟨hpi, hlt⟩ := esPlc_idx hpos
    obtain ⟨i, hi⟩ : ∃ i, esIdx l s = i := ⟨_, rfl⟩
    rw [hi] at hpi hlt
    have HW : Hid (esWo l s = l.eraseIdx i) := by show _ = _; unfold esWo; rw [hi]
    have HD : Hid (decide (0 ≤ esPlc l s) = true) := by show _ = _; simpa using hpos
    have HD2 : Hid (esPlc l s = (i : Int)) := hpi
    rw [hpi]
    clear hi hpi hpos
    obtain ⟨g, hg⟩ : ∃ g, ax = some ⟨g, 0, none⟩ := by
      rcases ownsR_form ho3 with ⟨h0, _⟩ | ⟨_, g, c, hv⟩
      · rw [h0] at hlt; simp at hlt
      · simp only [Value.slice.injEq, true_and] at hv; exact ⟨g, hv.1⟩
    subst hg
    have hgb := (World.ownsRow.lt ho3 g rfl).1
    have hi0 : ¬ ((i : Int) < 0) := by omega
    obtain ⟨W3, hW3⟩ : ∃ W3, w2.setCell ⟨w.heap.size, 0, none⟩ (.slice (some ⟨g, 0, none⟩) l.length cx) = W3 := ⟨_, rfl⟩
    rw [hW3] at ho3 hbx3 hby3 hB3 hz3
    have e0 := hbx3.c0
    go_wp2_with fail
    refine (esDelete_any g cx i _ l W3 ho3 hlt hlen).mono ?_
    rintro e w4 ⟨rfl, ho4, hg4⟩
    have hz4 := hg4.size
    have hbx4 := box5_kept hbx3 hg4 (by intro h; have := Option.some.inj h; omega)
    have hby4 := box5_kept hby3 hg4 (by intro h; have := Option.some.inj h; omega)
    have hB4 : Below w.heap.size w w4 := hB3.grown hg4 hB3.size (fun k hk => by have := Option.some.inj hk; omega)
    have q0 := hbx4.c0
    have q1 := hbx4.f0
    have ho5 := own_setCell ho4 ⟨w.heap.size, 0, none⟩ (.slice (some ⟨g, 0, none⟩) (l.length - 1) cx) (by show w.heap.size < _; omega)
    have hbx5 := box5_set0 hbx4 (.slice (some ⟨g, 0, none⟩) (l.length - 1) cx)
    have hby5 := box5_kept hby4 (grown_setCell w4 ⟨w.heap.size, 0, none⟩ (.slice (some ⟨g, 0, none⟩) (l.length - 1) cx)) (by simp)
    have hB5 : Below w.heap.size w (w4.setCell ⟨w.heap.size, 0, none⟩ (.slice (some ⟨g, 0, none⟩) (l.length - 1) cx)) := hB4.setCell (Nat.le_refl _) _
    obtain ⟨W5, hW5⟩ : ∃ W5, w4.setCell ⟨w.heap.size, 0, none⟩ (.slice (some ⟨g, 0, none⟩) (l.length - 1) cx) = W5 := ⟨_, rfl⟩
    rw [hW5] at ho5 hbx5 hby5 hB5
    clear hW3 e0 ho3 hbx3 hby3 hB3 ho4 hg4 hbx4 hby4 hB4 hc2 hf2
    have e0 := hbx5.c0
    have e1 := hbx5.c1
    have e2 := hbx5.c2
    have e3 := hbx5.c3
    have e4 := hbx5.c4
    have d0 := hby5.c0
    have d1 := hby5.c1
    have d2 := hby5.c2
    have d3 := hby5.c3
    have d4 := hby5.c4
    have g0 := hby5.f0
    have g1 := hby5.f1
    have g2 := hby5.f2
    have g3 := hby5.f3
    have g4 := hby5.f4
    go_wp2_with fail
    refine bodyPost_ret (esw_res rfl rfl (box5_set5 hby5 _ _ _ _ _)) rfl ⟨_, by rw [HD.out], ?_, ?_⟩
    · rw [HW.out]
      exact ownsR_base (own_setCell (own_setCell (own_setCell (own_setCell (own_setCell ho5 _ _ (by show w.heap.size + 1 < _; omega)) _ _ (by show w.heap.size + 1 < _; omega)) _ _ (by show w.heap.size + 1 < _; omega)) _ _ (by show w.heap.size + 1 < _; omega)) _ _ (by show w.heap.size + 1 < _; omega)) (by omega)
    · exact ((((hB5.setCell (by show _ ≤ w.heap.size + 1; omega) _).setCell (by show _ ≤ w.heap.size + 1; omega) _).setCell (by show _ ≤ w.heap.size + 1; omega) _).setCell (by show _ ≤ w.heap.size + 1; omega) _).setCell (by show _ ≤ w.heap.size + 1; omega) _
end Go.Proofs.YtooomgffcamijaaGreat
/- The program's BaseDrop. -/
namespace Go.Proofs.YtooomgffcamijaaGreat
open Go.RowKit
set_option linter.unusedVariables false

theorem range2 {w : World} {B : Nat} {x0 x1 : Value} {t : TypeId} {fr : Nat × Nat} (h : w.heap[B]? = some (.cells #[x0, x1] t fr)) : w.rangeAt B 0 [x0, x1] := by
  intro j v hv
  rw [Nat.zero_add, cell_of_row _ _ _ _ _ _ h]
  match j, hv with
  | 0, hv => cases hv; rfl
  | 1, hv => cases hv; rfl
  | j + 2, hv => simp at hv
theorem without_res {w : World} {tmps : Array Value} {g : Nat} {x0 x1 : Value} {bb : Bool} (hp : tmps[4]?.getD undef = .pointer (some ⟨g, 0, none⟩)) (hb : tmps[5]?.getD undef = .bool bb)
    (hg : w.rangeAt g 0 [x0, x1]) : (results Tryz.f17 tmps).run Tryz.prog w = .ok (.tuple #[.agg #[x0, x1], .bool bb]) w := by
  have hl := run_loadVar_mid (P := Tryz.prog) w g 0 28 [x0, x1] _ hg Tryz.underlying28 rfl (by kernel_rfl)
  simp [results, Tryz.results17, asAddr, hp, hb, hl]
theorem idrop_res {w : World} {tmps : Array Value} {g : Nat} {x0 x1 : Value} {bb : Bool} (hp : tmps[4]?.getD undef = .pointer (some ⟨g, 0, none⟩)) (hb : tmps[5]?.getD undef = .bool bb)
    (hg : w.rangeAt g 0 [x0, x1]) : (results Tryz.f7 tmps).run Tryz.prog w = .ok (.tuple #[.agg #[x0, x1], .bool bb]) w := by
  have hl := run_loadVar_mid (P := Tryz.prog) w g 0 28 [x0, x1] _ hg Tryz.underlying28 rfl (by kernel_rfl)
  simp [results, Tryz.results7, asAddr, hp, hb, hl]

theorem esWo_mem {l : List Row} {s : ByteArray} {x : Row} (h : x ∈ esWo l s) : x ∈ l := by unfold esWo at h; exact List.mem_of_mem_eraseIdx h
theorem esWo_small {l : List Row} (h : EsSmall l) (s : ByteArray) : EsSmall (esWo l s) := ⟨Nat.le_trans (esWo_len l s) h.len, fun x hx => h.each x (esWo_mem hx)⟩
theorem esHas_plc (l : List Row) (s : ByteArray) : decide (0 ≤ esPlc l s) = esHas l s := by
  unfold esPlc esHas
  by_cases h : esIdx l s < l.length
  · rw [if_pos h, decide_eq_true h]; simp
  · rw [if_neg h, decide_eq_false h]; decide
theorem map_erase {α β : Type} (f : α → β) (l : List α) (k : Nat) : (l.eraseIdx k).map f = (l.map f).eraseIdx k := by
  rw [List.eraseIdx_eq_take_drop_succ, List.eraseIdx_eq_take_drop_succ, List.map_append, List.map_take, List.map_drop]

set_option maxHeartbeats 8000000 in
set_option maxRecDepth 100000 in
theorem baseWithout_any (n : Int) (v : Value) (l : List Row) (s : ByteArray) (w : World) (hr : EsReads w v l) (hlen : l.length ≤ 1048576) :
    Calls Tryz.prog 17 #[bsV n v, .string s] w fun x w' => (∃ u, x = .returned (.tuple #[bsV n u, .bool (decide (0 ≤ esPlc l s))]) ∧ EsOwns w' w.heap.size u (esWo l s)) ∧ Below w.heap.size w w' := by
  obtain ⟨ao, cap, rfl⟩ := readsR_shape hr.rows
  go_enter Tryz.func17, Tryz.ntmps17
  go_wp2_with fail
  obtain ⟨w0, hW⟩ : ∃ W, (w.alloc (.cells #[.int .i64 n, .slice ao l.length cap] 28)).alloc (.cells #[.int .i64 0, .slice none 0 0] 28) = W := ⟨_, rfl⟩
  have hB0 : Below w.heap.size w w0 := by rw [← hW]; exact ((Below.refl _ w).alloc (Nat.le_refl _) _).alloc (by simp) _
  have hz0 : w0.heap.size = w.heap.size + 2 := by rw [← hW]; simp
  obtain ⟨q0, q1⟩ : w0.heap[w.heap.size]? = some _ ∧ w0.heap[w.heap.size + 1]? = some _ := by rw [← hW]; exact two_rows _ _ _
  rw [hW]
  have Q0 : Hid _ := q0
  have Q1 : Hid _ := q1
  clear hW q0 q1
  refine (entryTable_any n ao l.length cap _).mono ?_
  rintro x w1 ⟨rfl, _, hb1⟩
  have hB1 := hB0.trans (hb1.mono hB0.size)
  have hz1 := hb1.size
  rw [hz0] at hz1
  have P0 : Hid _ := (hb1.block w.heap.size (by omega)).trans Q0.out
  have P1 : Hid _ := (hb1.block (w.heap.size + 1) (by omega)).trans Q1.out
  clear hb1 Q0 Q1 hB0
  go_wp2_with fail
  refine (esWithout_any _ l s _ _ (esReads_kept hr hB1) hlen).mono ?_
  rintro e w2 ⟨u, rfl, ho2, hb2⟩
  obtain ⟨au, cu, rfl⟩ := readsR_shape (ownsR_reads rowC_len ho2)
  have hz2 := hb2.size
  have hB2 := hB1.trans (hb2.mono hB1.size)
  have q0 := (hb2.block w.heap.size (by omega)).trans P0.out
  have P2 : Hid _ := (hb2.block (w.heap.size + 1) (by omega)).trans P1.out
  have HO : Hid (∀ A, EsOwns (w2.alloc A) w1.heap.size (.slice au (esWo l s).length cu) (esWo l s)) := fun A => ownsR_kept ho2 ((Below.refl _ w2).alloc (Nat.le_refl _) A)
  have ha : ∀ A, (w2.alloc A).cell? ⟨w.heap.size, 0, none⟩ = some (.int .i64 n) := fun A => by
    have : w2.cell? ⟨w.heap.size, 0, none⟩ = some (.int .i64 n) := by rw [cell_of_row _ _ _ _ _ _ q0]; rfl
    rw [World.cell?_alloc_some _ _ _ (by rw [this]; rfl)]; exact this
  have hrow : ∀ A, (w2.alloc A).heap[w.heap.size + 1]? = some (.cells #[.int .i64 0, .slice none 0 0] 28 (0, 0)) := fun A => (Below.heap_alloc _ _ _ (by omega)).trans P2.out
  have d0 : ∀ A, (w2.alloc A).cell? ⟨w.heap.size + 1, 0, none⟩ = some (.int .i64 0) := fun A => by rw [cell_of_row _ _ _ _ _ _ (hrow A)]; rfl
  have d1 : ∀ A, (w2.alloc A).cell? ⟨w.heap.size + 1, 1, none⟩ = some (.slice none 0 0) := fun A => by rw [cell_of_row _ _ _ _ _ _ (hrow A)]; rfl
  have f1 : ∀ A o, (w2.alloc A).frozen? ⟨w.heap.size + 1, o, none⟩ = false := fun A o => by simp only [World.frozen?, hrow A]; rfl
  have hrs := fun (k : Nat) (w : World) (a : Addr) => run_store Tryz.prog w a (.func (.func k) #[] #[]) .plain rfl
  have hrt := fun (p : Option Addr) (w : World) (a : Addr) => run_store Tryz.prog w a (.func (.func 52) #[] #[.pointer p]) .plain rfl
  have HROW : Hid _ := hrow
  have HB2 : Hid _ := hB2
  clear hb2 hB1 P0 P1 q0 hr ho2 hrow hB2
  go_wp2_with fail
  have hBa : ∀ A, Below w.heap.size w (w2.alloc A) := fun A => HB2.out.alloc HB2.out.size A
  refine bodyPost_ret (without_res rfl rfl (range2 (box2_set (HROW.out _) _ _))) rfl ⟨⟨_, rfl, ?_⟩, ?_⟩
  · exact ownsR_base (own_setCell (own_setCell (HO.out _) _ _ (by show w.heap.size + 1 < _; omega)) _ _ (by show w.heap.size + 1 < _; omega)) (by omega)
  · exact ((hBa _).setCell (p := ⟨w.heap.size + 1, 0, none⟩) (by show w.heap.size ≤ w.heap.size + 1; omega) _).setCell (p := ⟨w.heap.size + 1, 1, none⟩) (by show w.heap.size ≤ w.heap.size + 1; omega) _
def dropN (n : Int) (l : List Row) : Int := if bsOkB n (l.map Row.e) = true then n else 0
def dropL (n : Int) (l : List Row) (s : ByteArray) : List Ent := if bsOkB n (l.map Row.e) = true then (esWo l s).map Row.e else []
def dropB (n : Int) (l : List Row) (s : ByteArray) : Bool := bsOkB n (l.map Row.e) && esHas l s

set_option maxHeartbeats 8000000 in
set_option maxRecDepth 100000 in
theorem implBaseDrop_any (n : Int) (v : Value) (l : List Row) (s : ByteArray) (w : World) (hr : EsReads w v l) (hs : EsSmall l) :
    Calls Tryz.prog 7 #[bsV n v, .string s] w fun x w' => (∃ u ys, x = .returned (.tuple #[bsV (dropN n l) u, .bool (dropB n l s)]) ∧ ys.map Row.e = dropL n l s ∧ Gr w' w.heap.size u ys) ∧ Below w.heap.size w w' := by
  obtain ⟨ao, cap, rfl⟩ := readsR_shape hr.rows
  have hlen := hs.len
  go_enter Tryz.func7, Tryz.ntmps7
  go_wp2_with fail
  obtain ⟨w0, hW⟩ : ∃ W, (w.alloc (.cells #[.int .i64 n, .slice ao l.length cap] 28)).alloc (.cells #[.int .i64 0, .slice none 0 0] 28) = W := ⟨_, rfl⟩
  have hB0 : Below w.heap.size w w0 := by rw [← hW]; exact ((Below.refl _ w).alloc (Nat.le_refl _) _).alloc (by simp) _
  have hzz : w0.heap.size = w.heap.size + 2 := by rw [← hW]; simp
  obtain ⟨q0, q1⟩ : w0.heap[w.heap.size]? = some _ ∧ w0.heap[w.heap.size + 1]? = some _ := by rw [← hW]; exact two_rows _ _ _
  rw [hW]
  clear hW
  refine (implBaseOk_any n _ l _ (esReads_kept hr hB0) hs).mono ?_
  rintro x w1 ⟨rfl, hb1⟩
  have hB1 := hB0.trans (hb1.mono hB0.size)
  have hOw := hb1.size
  rw [hzz] at hOw
  have q0 := (hb1.block w.heap.size (by omega)).trans q0
  have q1 := (hb1.block (w.heap.size + 1) (by omega)).trans q1
  have Q1 : Hid _ := q1
  have b0 : w1.cell? ⟨w.heap.size, 0, none⟩ = some (.int .i64 n) := by rw [cell_of_row _ _ _ _ _ _ q0]; rfl
  have b1 : w1.cell? ⟨w.heap.size, 1, none⟩ = some (.slice ao l.length cap) := by rw [cell_of_row _ _ _ _ _ _ q0]; rfl
  have r0 : w1.cell? ⟨w.heap.size + 1, 0, none⟩ = some (.int .i64 0) := by rw [cell_of_row _ _ _ _ _ _ q1]; rfl
  have r1 : w1.cell? ⟨w.heap.size + 1, 1, none⟩ = some (.slice none 0 0) := by rw [cell_of_row _ _ _ _ _ _ q1]; rfl
  have f1 : ∀ o, w1.frozen? ⟨w.heap.size + 1, o, none⟩ = false := fun o => by simp [World.frozen?, q1]
  clear hb1 hB0 hzz q0 q1
  cases hok : bsOkB n (l.map Row.e) with
  | false =>
    have HN : Hid (dropN n l = 0) := by show _ = _; unfold dropN; rw [if_neg (by rw [hok]; decide)]
    have HL : Hid (dropL n l s = []) := by show _ = _; unfold dropL; rw [if_neg (by rw [hok]; decide)]
    have HD : Hid (dropB n l s = false) := by show _ = _; unfold dropB; rw [hok]; rfl
    clear hok
    go_wp2_with fail
    have b1 := (hB1.setCell (p := ⟨w.heap.size + 1, 0, none⟩) (by show w.heap.size ≤ w.heap.size + 1; omega) (.int .i64 0)).setCell (p := ⟨w.heap.size + 1, 1, none⟩) (by show w.heap.size ≤ w.heap.size + 1; omega) (.slice none 0 0)
    refine bodyPost_ret (idrop_res rfl rfl (range2 (box2_set Q1.out _ _))) rfl ?_
    exact ⟨⟨_, [], by rw [HN.out, HD.out], by rw [HL.out]; rfl, gr_nil b1.size⟩, b1⟩
  | true =>
    have HN : Hid (dropN n l = n) := by show _ = _; unfold dropN; rw [if_pos hok]
    have HL : Hid (dropL n l s = (esWo l s).map Row.e) := by show _ = _; unfold dropL; rw [if_pos hok]
    have HD : Hid (dropB n l s = decide (0 ≤ esPlc l s)) := by show _ = _; unfold dropB; rw [hok, esHas_plc]; rfl
    clear hok r0 r1 f1
    go_wp2_with fail
    refine (baseWithout_any n _ l s _ (esReads_kept hr hB1) hlen).mono ?_
    rintro x w2 ⟨⟨u, rfl, ho2⟩, hb2⟩
    obtain ⟨au, cu, rfl⟩ := readsR_shape (ownsR_reads rowC_len ho2)
    have hz2 := hb2.size
    have hB2 := hB1.trans (hb2.mono hB1.size)
    have Q2 : Hid _ := (hb2.block (w.heap.size + 1) (by omega)).trans Q1.out
    have hE : EsReads w2 (.slice au (esWo l s).length cu) (esWo l s) := ⟨ownsR_reads rowC_len ho2, fun x hx => (esReads_kept hr hB2).ins x (esWo_mem hx)⟩
    have HE : Hid _ := hE
    have HB2 : Hid _ := hB2
    clear hb2 hB1 Q1 b0 b1 hr hE ho2 hB2
    go_wp2_with fail
    obtain ⟨w3, hW⟩ : ∃ W, w2.alloc (.cells #[.int .i64 n, .slice au (esWo l s).length cu] 28) = W := ⟨_, rfl⟩
    have hb3 : Below w2.heap.size w2 w3 := by rw [← hW]; exact (Below.refl _ w2).alloc (Nat.le_refl _) _
    have p3 : w3.heap[w2.heap.size]? = some (.cells #[.int .i64 n, .slice au (esWo l s).length cu] 28 (0, 0)) := by rw [← hW]; exact heap_alloc_new _ _
    rw [hW]
    clear hW
    have hz3 := hb3.size
    have HB3 : Hid _ := HB2.out.trans (hb3.mono HB2.out.size)
    have Q3 : Hid _ := (hb3.block (w.heap.size + 1) (by omega)).trans Q2.out
    refine (copyBase_any n _ (esWo l s) _ (esReads_kept HE.out hb3) (esWo_small hs s)).mono ?_
    rintro x w4 ⟨⟨u, ys, rfl, hy, hg⟩, hb4⟩
    obtain ⟨ax, cx, rfl⟩ := readsR_shape (gr_reads hg).rows
    have hz4 := hb4.size
    have q1 := (hb4.block (w.heap.size + 1) (by omega)).trans Q3.out
    have Q4 : Hid _ := q1
    have HG : Hid _ := hg
    have HY : Hid _ := hy
    have hB4 := HB3.out.trans (hb4.mono HB3.out.size)
    have r0 : w4.cell? ⟨w.heap.size + 1, 0, none⟩ = some (.int .i64 0) := by rw [cell_of_row _ _ _ _ _ _ q1]; rfl
    have r1 : w4.cell? ⟨w.heap.size + 1, 1, none⟩ = some (.slice none 0 0) := by rw [cell_of_row _ _ _ _ _ _ q1]; rfl
    have f1 : ∀ o, w4.frozen? ⟨w.heap.size + 1, o, none⟩ = false := fun o => by simp [World.frozen?, q1]
    clear hb3 hb4 p3 HE Q2 Q3 hg hy q1
    go_wp2_with fail
    have b1 := (hB4.setCell (p := ⟨w.heap.size + 1, 0, none⟩) (by show w.heap.size ≤ w.heap.size + 1; omega) (.int .i64 n)).setCell (p := ⟨w.heap.size + 1, 1, none⟩) (by show w.heap.size ≤ w.heap.size + 1; omega) (.slice ax ys.length cx)
    refine bodyPost_ret (idrop_res rfl rfl (range2 (box2_set Q4.out _ _))) rfl ?_
    exact ⟨⟨_, ys, by rw [HN.out, HD.out], by rw [HL.out, HY.out], gr_base (gr_cell (gr_cell HG.out ⟨w.heap.size + 1, 0, none⟩ (.int .i64 n) (by show w.heap.size + 1 < _; omega)) ⟨w.heap.size + 1, 1, none⟩ (.slice ax ys.length cx) (by show w.heap.size + 1 < _; omega)) (by omega)⟩, b1⟩
end Go.Proofs.YtooomgffcamijaaGreat
