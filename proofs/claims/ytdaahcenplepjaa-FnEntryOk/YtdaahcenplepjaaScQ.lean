/- ScoresPut: the model's. -/
import Derived.Test.YtdaahcenplepjaaScP
import Derived.Test.YtdaahcenplepjaaScPo
import Derived.Test.YtdaahcenplepjaaAq
import Derived.Test.YtdaahcenplepjaaTk
namespace Go.Proofs.Ytdaahcenplepjaa
open Go.RowKit

def scPutL (l : List (ByteArray × Int)) (x : ByteArray × Int) : List (ByteArray × Int) := scIns (scFl l x.1) x
def scPutB (l : List (ByteArray × Int)) (x : ByteArray × Int) : Bool := scOkB l && scOkB (scPutL l x)
def scPutF (l : List (ByteArray × Int)) (x : ByteArray × Int) : Bool := scPutB l x && (((scFl l x.1).length : Int) == (l.length : Int))
def scPutR (l : List (ByteArray × Int)) (x : ByteArray × Int) : List (ByteArray × Int) := if scOkB l = true then (if scOkB (scPutL l x) = true then scPutL l x else l) else []
theorem sc_one_at {w : World} {B : Nat} {y : ByteArray × Int} {t : TypeId} {fr : Nat × Nat} (h : w.heap[B]? = some (.cells #[.string y.1, .int .i64 y.2] t fr)) : ReadsR scC 2 w (.slice (some ⟨B, 0, none⟩) 1 1) [y] := by
  refine .inr ⟨by simp, B, 0, 1, rfl, (Array.getElem?_eq_some_iff.1 h).1, by simp, by unfold maxLen; omega, fun k x hk => ?_⟩
  match k, hk with
  | 0, hk =>
    cases hk
    intro j u hu
    rw [Nat.zero_mul, Nat.zero_add, cell_of_row _ _ _ _ _ _ h]
    match j, hu with
    | 0, hu => cases hu; rfl
    | 1, hu => cases hu; rfl
    | j + 2, hu => simp [scC] at hu
  | k + 1, hk => simp at hk

set_option maxHeartbeats 8000000 in
set_option maxRecDepth 20000 in
theorem specScoresPut_any (v : Value) (l : List (ByteArray × Int)) (y : ByteArray × Int) (w : World) (hr : ScReads w v l) (hlen : l.length ≤ 1048576) :
    Calls Try.prog 35 #[v, .agg #[.string y.1, .int .i64 y.2]] w fun e w' => ∃ x, e = .returned (.tuple #[x, .bool (scPutF l y), .bool (scPutB l y)]) ∧ ScOwns w' w.heap.size x (scPutR l y) ∧ Below w.heap.size w w' := by
  obtain ⟨i0, hi0, hz0, hz1, hz2⟩ := info_parts scInfo
  obtain ⟨ao, cap, rfl⟩ := readsR_shape hr
  obtain ⟨W0, hW0⟩ : ∃ W0, w.alloc (.cells #[.string y.1, .int .i64 y.2] 62) = W0 := ⟨_, rfl⟩
  have hB0 : Below w.heap.size w W0 := by rw [← hW0]; exact (Below.refl _ w).alloc (Nat.le_refl _) _
  have hz0' : w.heap.size + 1 ≤ W0.heap.size := by rw [← hW0]; simp
  have hp : W0.cell? ⟨w.heap.size, 0, none⟩ = some (.string y.1) ∧ W0.cell? ⟨w.heap.size, 0 + 1, none⟩ = some (.int .i64 y.2) := by
    rw [← hW0]; exact ⟨by rw [cell_of_row _ _ _ _ _ _ (heap_alloc_new w _)]; rfl, by rw [cell_of_row _ _ _ _ _ _ (heap_alloc_new w _)]; rfl⟩
  go_enter Try.func35, Try.ntmps35
  go_wp2_with fail
  clear hW0
  refine (specScoresOk_any _ l _ (readsR_kept hr hB0) hlen).mono ?_
  rintro e w1 ⟨rfl, hb1⟩
  have hsz1 := hb1.size
  have hB1 := hB0.trans (hb1.mono hB0.size)
  have hp1 := sc_cell_kept hp hb1 (by omega)
  clear hp hb1 hB0
  cases hok : scOkB l with
  | false =>
    have HR : Hid (scPutR l y = []) := by show _ = _; unfold scPutR; rw [hok]; rfl
    have HB : Hid (scPutB l y = false) := by show _ = _; unfold scPutB; rw [hok]; rfl
    have HF : Hid (scPutF l y = false) := by show _ = _; unfold scPutF; rw [HB.out]; rfl
    have ho1 : ScOwns (w1.alloc (.cells #[] 62)) w.heap.size (.slice (some ⟨w1.heap.size, 0, none⟩) 0 0) [] := World.ownsRow_lit w1 #[] 0 (by omega) (by simp) rfl
    have hB2 : Below w.heap.size w (w1.alloc (.cells #[] 62)) := hB1.alloc (by omega) _
    clear hok
    go_wp2_with fail
    go_ret3
    exact ⟨_, by rw [HF.out, HB.out]; rfl, by rw [HR.out]; exact ho1, hB2⟩
  | true =>
    have hn16 : l.length ≤ 16 := by unfold scOkB at hok; rw [Bool.and_eq_true] at hok; simpa using hok.1
    have HOK : Hid (scOkB l = true) := hok
    have hc0 := hp1.1
    clear hok
    go_wp2_with fail
    refine (l3Without_any _ l y.1 _ (readsR_kept hr hB1) hlen).mono ?_
    rintro e w2 ⟨x2, rfl, hne2, ho2, hb2⟩
    have hsz2 := hb2.size
    have hB2 := hB1.trans (hb2.mono (by omega))
    have hp2 := sc_cell_kept hp1 hb2 (by omega)
    have hrl := scFl_len l y.1
    have HPL : Hid (scPutL l y = scIns (scFl l y.1) y) := rfl
    have HFL : Hid (scPutF l y = (scPutB l y && (((scFl l y.1).length : Int) == (l.length : Int)))) := rfl
    generalize scFl l y.1 = R at *
    obtain ⟨g, c2, hxv, hgb, hgz⟩ : ∃ g c2, x2 = .slice (some ⟨g, 0, none⟩) R.length c2 ∧ R.length ≤ c2 ∧ c2 ≤ maxLen := by
      rcases ho2.2 with ⟨h, _⟩ | ⟨g, cap', cur, hv, _, _, hnc, hcm, _⟩
      · exact absurd h hne2
      · exact ⟨g, cap', hv, hnc, hcm⟩
    subst hxv
    unfold maxLen at hgz
    clear hne2
    clear hc0 hp1 hb2 hB1
    go_wp2_with fail
    go_loopw [8] (fun i wr => ∃ k : Nat, k ≤ R.length ∧ i = .int .i64 (k : Int) ∧ scILow R y k ∧ Below w2.heap.size w2 wr) (fun i _ => R.length - (intOf i).toNat)
    case atStart => exact ⟨0, Nat.zero_le _, rfl, fun j hj => by omega, Below.refl _ _⟩
    case round =>
      obtain ⟨k, hk, rfl, hlow, hbr⟩ := hrel
      have hszr := hbr.size
      have hpr := sc_cell_kept hp2 hbr (by omega)
      have hor := ownsR_kept ho2 hbr
      by_cases hlt : k < R.length
      · obtain ⟨hq0, hq1⟩ := hpr
        have hkr : (k : Int) < (R.length : Int) := by omega
        have hd0 : wr.cell? ⟨g, k * 2, none⟩ = _ := cellR scC_len hor (scAt_some hlt) 0 _ rfl
        have hd1 : wr.cell? ⟨g, k * 2 + 1, none⟩ = _ := cellR scC_len hor (scAt_some hlt) 1 _ rfl
        have hgr : g < wr.heap.size := World.block_lt_of_cell? wr _ hd0
        have hwz : w.heap.size < wr.heap.size := by omega
        have HS : Hid (∀ w', Below wr.heap.size wr w' → (Below wr.heap.size wr w' ∧ w'.cell? ⟨w.heap.size, 0, none⟩ = some (.string y.1) ∧ w'.cell? ⟨w.heap.size, 1, none⟩ = some (.int .i64 y.2) ∧ w'.cell? ⟨g, k * 2, none⟩ = some (.string (scAt R k).1) ∧ w'.cell? ⟨g, k * 2 + 1, none⟩ = some (.int .i64 (scAt R k).2))) := fun w' h =>
          ⟨h, (h.cell (p := ⟨w.heap.size, 0, none⟩) hwz).trans hq0, (h.cell (p := ⟨w.heap.size, 1, none⟩) hwz).trans hq1, (h.cell (p := ⟨g, k * 2, none⟩) hgr).trans hd0, (h.cell (p := ⟨g, k * 2 + 1, none⟩) hgr).trans hd1⟩
        clear hq0 hq1 hd0 hd1 hor
        cases hA : scAheadB (scAt R k) y with
        | true =>
          have HL : Hid (scILow R y (k + 1)) := scILow_step hlow hA
          go_wp2_with fail
          refine wp_region_held_drew (S := (fun w' => Below wr.heap.size wr w' ∧ w'.cell? ⟨w.heap.size, 0, none⟩ = some (.string y.1) ∧ w'.cell? ⟨w.heap.size, 1, none⟩ = some (.int .i64 y.2) ∧ w'.cell? ⟨g, k * 2, none⟩ = some (.string (scAt R k).1) ∧ w'.cell? ⟨g, k * 2 + 1, none⟩ = some (.int .i64 (scAt R k).2))) (by kernel_rfl) (by exact HS.out _ (Below.refl _ _).drew) (fun hHeld => ?_)
          refine takeH (i := 0) (d := (some 18)) (v := ?_) rfl rfl (by kernel_rfl) (by kernel_rfl) (by kernel_rfl) (fun _ _ _ h => h) (by kernel_rfl) ?_ (by assumption) ?_
          rotate_left
          · (intro w hSw; (try dsimp only at hSw); go_simp; try with_reducible rfl)
          try simp only [Act.put, List.setIfInBounds_toArray, List.set_cons_succ, List.set_cons_zero]
          refine takeH (i := 1) (d := (some 19)) (v := ?_) rfl rfl (by kernel_rfl) (by kernel_rfl) (by kernel_rfl) (fun _ _ _ h => h) (by kernel_rfl) ?_ (by assumption) ?_
          rotate_left
          · (intro w hSw; (try dsimp only at hSw); go_simp; try with_reducible rfl)
          try simp only [Act.put, List.setIfInBounds_toArray, List.set_cons_succ, List.set_cons_zero]
          refine takeH (i := 2) (d := (some 20)) (v := ?_) rfl rfl (by kernel_rfl) (by kernel_rfl) (by kernel_rfl) (fun _ _ _ h => h) (by kernel_rfl) ?_ (by assumption) ?_
          rotate_left
          · (intro w hSw; (try dsimp only at hSw); go_simp; try with_reducible rfl)
          try simp only [Act.put, List.setIfInBounds_toArray, List.set_cons_succ, List.set_cons_zero]
          refine takeH (i := 3) (d := (some 21)) (v := ?_) rfl rfl (by kernel_rfl) (by kernel_rfl) (by kernel_rfl) (fun _ _ _ h => h) (by kernel_rfl) ?_ (by assumption) ?_
          rotate_left
          · (intro w hSw; (try dsimp only at hSw); go_simp; try with_reducible rfl)
          try simp only [Act.put, List.setIfInBounds_toArray, List.set_cons_succ, List.set_cons_zero]
          refine takeH (i := 4) (d := (some 22)) (v := ?_) rfl rfl (by kernel_rfl) (by kernel_rfl) (by kernel_rfl) (fun _ _ _ h => h) (by kernel_rfl) ?_ (by assumption) ?_
          rotate_left
          · (intro w hSw; (try dsimp only at hSw); go_simp; try with_reducible rfl)
          try simp only [Act.put, List.setIfInBounds_toArray, List.set_cons_succ, List.set_cons_zero]
          refine takeH (i := 5) (d := (some 23)) (v := ?_) rfl rfl (by kernel_rfl) (by kernel_rfl) (by kernel_rfl) (fun _ _ _ h => h) (by kernel_rfl) ?_ (by assumption) ?_
          rotate_left
          · (intro w hSw; (try dsimp only at hSw); go_simp; try with_reducible rfl)
          try simp only [Act.put, List.setIfInBounds_toArray, List.set_cons_succ, List.set_cons_zero]
          refine takeH (i := 6) (d := (some 24)) (v := ?_) rfl rfl (by kernel_rfl) (by kernel_rfl) (by kernel_rfl) (fun _ _ _ h => h) (by kernel_rfl) ?_ (by assumption) ?_
          rotate_left
          · (intro w hSw; (try dsimp only at hSw); go_simp; try with_reducible rfl)
          try simp only [Act.put, List.setIfInBounds_toArray, List.set_cons_succ, List.set_cons_zero]
          refine takeH (i := 7) (d := (some 25)) (v := ?_) rfl rfl (by kernel_rfl) (by kernel_rfl) (by kernel_rfl) (fun _ _ _ h => h) (by kernel_rfl) ?_ (by assumption) ?_
          rotate_left
          · (intro w hSw; (try dsimp only at hSw); go_simp; try with_reducible rfl)
          try simp only [Act.put, List.setIfInBounds_toArray, List.set_cons_succ, List.set_cons_zero]
          refine takeH (i := 8) (d := (some 26)) (v := ?_) rfl rfl (by kernel_rfl) (by kernel_rfl) (by kernel_rfl) (fun _ _ _ h => h) (by kernel_rfl) ?_ (by assumption) ?_
          rotate_left
          · (intro w hSw; (try dsimp only at hSw); go_simp; try with_reducible rfl)
          try simp only [Act.put, List.setIfInBounds_toArray, List.set_cons_succ, List.set_cons_zero]
          refine takeH (i := 9) (d := (some 27)) (v := ?_) rfl rfl (by kernel_rfl) (by kernel_rfl) (by kernel_rfl) (fun _ _ _ h => h) (by kernel_rfl) ?_ (by assumption) ?_
          rotate_left
          · (intro w hSw; (try dsimp only at hSw); go_simp; try with_reducible rfl)
          try simp only [Act.put, List.setIfInBounds_toArray, List.set_cons_succ, List.set_cons_zero]
          refine wpAnyH_ready (rs := [10]) (by kernel_rfl) (by simp) ?_
          refine AllReadyH.cons rfl (fun K hK => ?_) AllReadyH.nil
          go_simp
          refine (l3Ahead_any (scAt R k) y _).mono ?_; rintro e w3 ⟨he, hb3⟩; rw [hA] at he; subst he; have hk3 := HS.out _ (sc_heldStep hb3 ‹_›); clear hb3
          refine hK.out _ _ ?_ (fun hHeld => ?_)
          · exact hk3
          clear hK K
          try simp only [Act.put, List.setIfInBounds_toArray, List.set_cons_succ, List.set_cons_zero]
          refine takeH (i := 11) (d := (some 29)) (v := ?_) rfl rfl (by kernel_rfl) (by kernel_rfl) (by kernel_rfl) (fun _ _ _ h => h) (by kernel_rfl) ?_ (by assumption) ?_
          rotate_left
          · (intro w hSw; (try dsimp only at hSw); go_simp; try with_reducible rfl)
          try simp only [Act.put, List.setIfInBounds_toArray, List.set_cons_succ, List.set_cons_zero]
          refine wpAnyH_done (by kernel_rfl) ?_ _
          have hb5 := hbr.trans (hk3.1.mono hszr)
          clear hk3 hA HS hbr
          try clear hHeld
          go_wp2_with fail
          go_roundw
          case rel => exact ⟨k + 1, hlt, by go_num, HL.out, hb5⟩
          case measure => simp [intOf]; omega
        | false =>
          have HPOS : Hid (scIPos R y = k) := scIPos_at hlt hlow hA
          go_wp2_with fail
          refine wp_region_held_drew (S := (fun w' => Below wr.heap.size wr w' ∧ w'.cell? ⟨w.heap.size, 0, none⟩ = some (.string y.1) ∧ w'.cell? ⟨w.heap.size, 1, none⟩ = some (.int .i64 y.2) ∧ w'.cell? ⟨g, k * 2, none⟩ = some (.string (scAt R k).1) ∧ w'.cell? ⟨g, k * 2 + 1, none⟩ = some (.int .i64 (scAt R k).2))) (by kernel_rfl) (by exact HS.out _ (Below.refl _ _).drew) (fun hHeld => ?_)
          refine takeH (i := 0) (d := (some 18)) (v := ?_) rfl rfl (by kernel_rfl) (by kernel_rfl) (by kernel_rfl) (fun _ _ _ h => h) (by kernel_rfl) ?_ (by assumption) ?_
          rotate_left
          · (intro w hSw; (try dsimp only at hSw); go_simp; try with_reducible rfl)
          try simp only [Act.put, List.setIfInBounds_toArray, List.set_cons_succ, List.set_cons_zero]
          refine takeH (i := 1) (d := (some 19)) (v := ?_) rfl rfl (by kernel_rfl) (by kernel_rfl) (by kernel_rfl) (fun _ _ _ h => h) (by kernel_rfl) ?_ (by assumption) ?_
          rotate_left
          · (intro w hSw; (try dsimp only at hSw); go_simp; try with_reducible rfl)
          try simp only [Act.put, List.setIfInBounds_toArray, List.set_cons_succ, List.set_cons_zero]
          refine takeH (i := 2) (d := (some 20)) (v := ?_) rfl rfl (by kernel_rfl) (by kernel_rfl) (by kernel_rfl) (fun _ _ _ h => h) (by kernel_rfl) ?_ (by assumption) ?_
          rotate_left
          · (intro w hSw; (try dsimp only at hSw); go_simp; try with_reducible rfl)
          try simp only [Act.put, List.setIfInBounds_toArray, List.set_cons_succ, List.set_cons_zero]
          refine takeH (i := 3) (d := (some 21)) (v := ?_) rfl rfl (by kernel_rfl) (by kernel_rfl) (by kernel_rfl) (fun _ _ _ h => h) (by kernel_rfl) ?_ (by assumption) ?_
          rotate_left
          · (intro w hSw; (try dsimp only at hSw); go_simp; try with_reducible rfl)
          try simp only [Act.put, List.setIfInBounds_toArray, List.set_cons_succ, List.set_cons_zero]
          refine takeH (i := 4) (d := (some 22)) (v := ?_) rfl rfl (by kernel_rfl) (by kernel_rfl) (by kernel_rfl) (fun _ _ _ h => h) (by kernel_rfl) ?_ (by assumption) ?_
          rotate_left
          · (intro w hSw; (try dsimp only at hSw); go_simp; try with_reducible rfl)
          try simp only [Act.put, List.setIfInBounds_toArray, List.set_cons_succ, List.set_cons_zero]
          refine takeH (i := 5) (d := (some 23)) (v := ?_) rfl rfl (by kernel_rfl) (by kernel_rfl) (by kernel_rfl) (fun _ _ _ h => h) (by kernel_rfl) ?_ (by assumption) ?_
          rotate_left
          · (intro w hSw; (try dsimp only at hSw); go_simp; try with_reducible rfl)
          try simp only [Act.put, List.setIfInBounds_toArray, List.set_cons_succ, List.set_cons_zero]
          refine takeH (i := 6) (d := (some 24)) (v := ?_) rfl rfl (by kernel_rfl) (by kernel_rfl) (by kernel_rfl) (fun _ _ _ h => h) (by kernel_rfl) ?_ (by assumption) ?_
          rotate_left
          · (intro w hSw; (try dsimp only at hSw); go_simp; try with_reducible rfl)
          try simp only [Act.put, List.setIfInBounds_toArray, List.set_cons_succ, List.set_cons_zero]
          refine takeH (i := 7) (d := (some 25)) (v := ?_) rfl rfl (by kernel_rfl) (by kernel_rfl) (by kernel_rfl) (fun _ _ _ h => h) (by kernel_rfl) ?_ (by assumption) ?_
          rotate_left
          · (intro w hSw; (try dsimp only at hSw); go_simp; try with_reducible rfl)
          try simp only [Act.put, List.setIfInBounds_toArray, List.set_cons_succ, List.set_cons_zero]
          refine takeH (i := 8) (d := (some 26)) (v := ?_) rfl rfl (by kernel_rfl) (by kernel_rfl) (by kernel_rfl) (fun _ _ _ h => h) (by kernel_rfl) ?_ (by assumption) ?_
          rotate_left
          · (intro w hSw; (try dsimp only at hSw); go_simp; try with_reducible rfl)
          try simp only [Act.put, List.setIfInBounds_toArray, List.set_cons_succ, List.set_cons_zero]
          refine takeH (i := 9) (d := (some 27)) (v := ?_) rfl rfl (by kernel_rfl) (by kernel_rfl) (by kernel_rfl) (fun _ _ _ h => h) (by kernel_rfl) ?_ (by assumption) ?_
          rotate_left
          · (intro w hSw; (try dsimp only at hSw); go_simp; try with_reducible rfl)
          try simp only [Act.put, List.setIfInBounds_toArray, List.set_cons_succ, List.set_cons_zero]
          refine wpAnyH_ready (rs := [10]) (by kernel_rfl) (by simp) ?_
          refine AllReadyH.cons rfl (fun K hK => ?_) AllReadyH.nil
          go_simp
          refine (l3Ahead_any (scAt R k) y _).mono ?_; rintro e w3 ⟨he, hb3⟩; rw [hA] at he; subst he; have hk3 := HS.out _ (sc_heldStep hb3 ‹_›); clear hb3
          refine hK.out _ _ ?_ (fun hHeld => ?_)
          · exact hk3
          clear hK K
          try simp only [Act.put, List.setIfInBounds_toArray, List.set_cons_succ, List.set_cons_zero]
          refine takeH (i := 11) (d := (some 29)) (v := ?_) rfl rfl (by kernel_rfl) (by kernel_rfl) (by kernel_rfl) (fun _ _ _ h => h) (by kernel_rfl) ?_ (by assumption) ?_
          rotate_left
          · (intro w hSw; (try dsimp only at hSw); go_simp; try with_reducible rfl)
          try simp only [Act.put, List.setIfInBounds_toArray, List.set_cons_succ, List.set_cons_zero]
          refine wpAnyH_done (by kernel_rfl) ?_ _
          have hbq : Below w2.heap.size w2 w3 := hbr.trans (hk3.1.mono hszr)
          clear hk3 hA HS hbr
          try clear hHeld
          go_wp2_with fail
          have hoq := ownsR_kept ho2 hbq
          have hpq := sc_cell_kept hp2 hbq (by omega)
          have hqz := (hbq).size
          have hgq : g < (w3).heap.size := (World.ownsRow.lt hoq g rfl).2
          have hwq : w.heap.size < (w3).heap.size := by omega
          have hwq2 : w.heap.size ≤ (w3).heap.size := by omega
          have hrq := readsR_at (ownsR_reads scC_len hoq)
          have hBq : Below w.heap.size w (w3) := hB2.trans ((hbq).mono (by omega))
          have HA : Hid (ReadsR scC 2 (w3) (.slice (some ⟨g, 0, none⟩) (k) c2) (R.take (k))) := by
            have := readsR_cut (sz := 2) (c := scC) hgq hgb hgz hrq (ao := some ⟨g, 0, none⟩) (a := 0) (e := k) (n := k) (k := c2) (fun _ => by simp) (by simp) (Nat.zero_le _) (by omega) (by omega) (by omega)
            rw [List.drop_zero] at this; exact this
          obtain ⟨ab, hab⟩ : ∃ ab, (if c2 = k then some (⟨g, 0, none⟩ : Addr) else some ⟨g, (k) * 2, none⟩) = ab := ⟨_, rfl⟩
          have HBc : Hid (ReadsR scC 2 (w3) (.slice ab (R.length - (k)) (c2 - (k))) (R.drop (k))) := by
            have := readsR_cut (sz := 2) (c := scC) hgq hgb hgz hrq (ao := ab) (a := k) (e := R.length) (n := R.length - (k)) (k := c2 - (k)) (fun h => by rw [← hab, if_neg h]; simp) (by rw [← hab]; split <;> simp) (by omega) (Nat.le_refl _) rfl rfl
            rw [List.take_length] at this; exact this
          have HS2 : Hid (∀ w', Below (w3).heap.size (w3) w' → (w'.cell? ⟨w.heap.size, 0, none⟩ = some (.string y.1) ∧ w'.cell? ⟨w.heap.size, 1, none⟩ = some (.int .i64 y.2))) := fun w' h => ⟨(h.cell (p := ⟨w.heap.size, 0, none⟩) hwq).trans hpq.1, (h.cell (p := ⟨w.heap.size, 1, none⟩) hwq).trans hpq.2⟩
          have hj1 : ((k : Nat) : Int) ≤ (c2 : Int) := by omega
          have hj2 : ((k : Nat) : Int) ≤ (R.length : Int) := by omega
          have hj3 : (R.length : Int) ≤ (c2 : Int) := by omega
          have hRl : R.length ≤ 16 := by omega
          have hlw : ∀ (A : Array Value), A.size = 0 → Below (w3).heap.size (w3) ((w3).alloc (.cells A 62)) := fun A _ => (Below.refl _ _).alloc (Nat.le_refl _) _
          clear hoq hpq hrq hlw
          have hlitB : (((w3).alloc (.cells #[.string y.1, .int .i64 y.2] 62)).alloc (.cells #[] 62)).ownsRow (w3).heap.size 62 2 (.slice (some ⟨(w3).heap.size + 1, 0, none⟩) 0 0) 0 [] := by
            have := World.ownsRow_lit (base := (w3).heap.size) (e := 62) (size := 2) ((w3).alloc (.cells #[.string y.1, .int .i64 y.2] 62)) #[] 0 (by simp) (by simp) rfl
            rw [World.size_alloc] at this; exact this
          refine wp_region_held_drew (S := (fun w' => w'.cell? ⟨w.heap.size, 0, none⟩ = some (.string y.1) ∧ w'.cell? ⟨w.heap.size, 1, none⟩ = some (.int .i64 y.2))) (by kernel_rfl) (by exact HS2.out _ (Below.refl _ _).drew) (fun hHeld => ?_)
          refine takeH (i := 1) (d := (some 33)) (v := ?_) rfl rfl (by kernel_rfl) (by kernel_rfl) (by kernel_rfl) (fun _ _ _ h => h) (by kernel_rfl) ?_ (by assumption) ?_
          rotate_left
          · (intro w hSw; (try dsimp only at hSw); go_simp; try with_reducible rfl)
          try simp only [Act.put, List.setIfInBounds_toArray, List.set_cons_succ, List.set_cons_zero]
          refine takeH (i := 2) (d := (some 34)) (v := ?_) rfl rfl (by kernel_rfl) (by kernel_rfl) (by kernel_rfl) (fun _ _ _ h => h) (by kernel_rfl) ?_ (by assumption) ?_
          rotate_left
          · (intro w hSw; (try dsimp only at hSw); go_simp; try with_reducible rfl)
          try simp only [Act.put, List.setIfInBounds_toArray, List.set_cons_succ, List.set_cons_zero]
          refine takeH (i := 3) (d := (some 35)) (v := ?_) rfl rfl (by kernel_rfl) (by kernel_rfl) (by kernel_rfl) (fun _ _ _ h => h) (by kernel_rfl) ?_ (by assumption) ?_
          rotate_left
          · (intro w hSw; (try dsimp only at hSw); go_simp; try with_reducible rfl)
          try simp only [Act.put, List.setIfInBounds_toArray, List.set_cons_succ, List.set_cons_zero]
          refine takeH (i := 5) (d := (some 37)) (v := ?_) rfl rfl (by kernel_rfl) (by kernel_rfl) (by kernel_rfl) (fun _ _ _ h => h) (by kernel_rfl) ?_ (by assumption) ?_
          rotate_left
          · (intro w hSw; (try dsimp only at hSw); go_simp; try with_reducible rfl)
          try simp only [Act.put, List.setIfInBounds_toArray, List.set_cons_succ, List.set_cons_zero]
          refine takeH (i := 8) (d := (some 40)) (v := ?_) rfl rfl (by kernel_rfl) (by kernel_rfl) (by kernel_rfl) (fun _ _ _ h => h) (by kernel_rfl) ?_ (by assumption) ?_
          rotate_left
          · (intro w hSw; (try dsimp only at hSw); go_simp; try with_reducible rfl)
          try simp only [Act.put, List.setIfInBounds_toArray, List.set_cons_succ, List.set_cons_zero]
          refine takeH (i := 9) (d := (some 41)) (v := ?_) rfl rfl (by kernel_rfl) (by kernel_rfl) (by kernel_rfl) (fun _ _ _ h => h) (by kernel_rfl) ?_ (by assumption) ?_
          rotate_left
          · (intro w hSw; (try dsimp only at hSw); go_simp; try with_reducible rfl)
          try simp only [Act.put, List.setIfInBounds_toArray, List.set_cons_succ, List.set_cons_zero]
          refine takeH (i := 10) (d := (some 42)) (v := ?_) rfl rfl (by kernel_rfl) (by kernel_rfl) (by kernel_rfl) (fun _ _ _ h => h) (by kernel_rfl) ?_ (by assumption) ?_
          rotate_left
          · (intro w hSw; (try dsimp only at hSw); go_simp; try with_reducible rfl)
          try simp only [Act.put, List.setIfInBounds_toArray, List.set_cons_succ, List.set_cons_zero]
          refine wpAnyH_ready (rs := [0, 6]) (by kernel_rfl) (by simp) ?_
          refine AllReadyH.cons rfl (fun K hK => ?_) (AllReadyH.cons rfl (fun K hK => ?_) AllReadyH.nil)
          · go_simp
            refine hK.out _ _ ?_ (fun hHeld => ?_)
            · exact HS2.out _ ((Below.refl (w3).heap.size (w3)).alloc (Nat.le_refl _) (.cells #[] 62)).drew
            clear hK K
            (try simp only [Act.put]); (try simp only [List.setIfInBounds_toArray]); (try simp only [List.set_cons_succ]); (try simp only [List.set_cons_zero])
            refine wpAnyH_ready (rs := [4, 6]) (by kernel_rfl) (by simp) ?_
            refine AllReadyH.cons rfl (fun K hK => ?_) (AllReadyH.cons rfl (fun K hK => ?_) AllReadyH.nil)
            · refine step_append_R (c := scC) (d := some 36) rfl rfl (.tmp 32) (.tmp 35) 24 rfl (w3).heap.size 62 i0 _ 2 24 Try.underlying24 hi0 hz0 hz1 hz2 rfl (by decide) _ _ _ rfl (World.ownsRow.drew (World.ownsRow_lit (w3) #[] 0 (Nat.le_refl _) (by simp) rfl)) _ rfl (R.take (k)) (readsR_kept HA.out ((Below.refl (w3).heap.size (w3)).alloc (Nat.le_refl _) (.cells #[] 62)).drew) scC_len scC_one (by unfold maxLen; simp; omega) (by simp; omega) (by simp) ?_
              intro x5 w5 ho5 hg5
              have hb5 : Below (w3).heap.size (w3) w5 := Below.grown ((Below.refl (w3).heap.size (w3)).alloc (Nat.le_refl _) (.cells #[] 62)).drew hg5 (by simp) (fun k hk => by cases hk; exact Nat.le_refl _)
              refine hK.out _ _ ?_ (fun hHeld => ?_)
              · exact HS2.out _ hb5
              clear hK K
              (try simp only [Act.put]); (try simp only [List.setIfInBounds_toArray]); (try simp only [List.set_cons_succ]); (try simp only [List.set_cons_zero])
              have hz5 := hb5.size
              refine wpAnyH_ready (rs := [6]) (by kernel_rfl) (by simp) ?_
              refine AllReadyH.cons rfl (fun K hK => ?_) AllReadyH.nil
              go_simp
              refine hK.out _ _ ?_ (fun hHeld => ?_)
              · exact HS2.out _ (hb5.alloc hz5 (.cells #[.string y.1, .int .i64 y.2] 62))
              clear hK K
              (try simp only [Act.put]); (try simp only [List.setIfInBounds_toArray]); (try simp only [List.set_cons_succ]); (try simp only [List.set_cons_zero])
              refine wpAnyH_ready (rs := [7]) (by kernel_rfl) (by simp) ?_
              refine AllReadyH.cons rfl (fun K hK => ?_) AllReadyH.nil
              refine step_append_R (c := scC) (d := some 39) rfl rfl (.tmp 36) (.tmp 38) 24 rfl (w3).heap.size 62 i0 _ 2 24 Try.underlying24 hi0 hz0 hz1 hz2 rfl (by decide) _ _ _ rfl (World.ownsRow.alloc ho5 (.cells #[.string y.1, .int .i64 y.2] 62)) _ rfl [y] (sc_one_at (heap_alloc_new w5 (.cells #[.string y.1, .int .i64 y.2] 62))) scC_len scC_one (by unfold maxLen; simp; omega) (by simp; omega) (by simp; omega) ?_
              intro x6 w6 ho6 hg6
              have hb6 : Below (w3).heap.size (w3) w6 := Below.grown (hb5.alloc hz5 (.cells #[.string y.1, .int .i64 y.2] 62)) hg6 (by simp; omega) (fun k hk => (ho5.lt k hk).1)
              refine hK.out _ _ ?_ (fun hHeld => ?_)
              · exact HS2.out _ hb6
              clear hK K
              (try simp only [Act.put]); (try simp only [List.setIfInBounds_toArray]); (try simp only [List.set_cons_succ]); (try simp only [List.set_cons_zero])
              have hz6 := hb6.size
              refine wpAnyH_ready (rs := [11]) (by kernel_rfl) (by simp) ?_
              refine AllReadyH.cons rfl (fun K hK => ?_) AllReadyH.nil
              refine step_append_R (c := scC) (d := some 43) rfl rfl (.tmp 39) (.tmp 42) 24 rfl (w3).heap.size 62 i0 _ 2 24 Try.underlying24 hi0 hz0 hz1 hz2 rfl (by decide) _ _ _ rfl ho6 _ rfl (R.drop (k)) (readsR_kept HBc.out hb6) scC_len scC_one (by unfold maxLen; simp; omega) (by simp; omega) hz6 ?_
              intro x7 w7 ho7 hg7
              have hb7 : Below (w3).heap.size (w3) w7 := Below.grown hb6 hg7 hz6 (fun k hk => (ho6.lt k hk).1)
              refine hK.out _ _ ?_ (fun hHeld => ?_)
              · exact HS2.out _ hb7
              clear hK K
              (try simp only [Act.put]); (try simp only [List.setIfInBounds_toArray]); (try simp only [List.set_cons_succ]); (try simp only [List.set_cons_zero])
              refine takeH (i := 12) (d := (some 9)) (v := ?_) rfl rfl (by kernel_rfl) (by kernel_rfl) (by kernel_rfl) (fun _ _ _ h => h) (by kernel_rfl) ?_ (by assumption) ?_
              rotate_left
              · (intro w hSw; (try dsimp only at hSw); go_simp; try with_reducible rfl)
              (try simp only [Act.put]); (try simp only [List.setIfInBounds_toArray]); (try simp only [List.set_cons_succ]); (try simp only [List.set_cons_zero])
              refine wpAnyH_done (by kernel_rfl) ?_ _
              have hB7 : Below w.heap.size w w7 := hBq.trans (hb7.mono (by omega))
              have hoF0 : ScOwns w7 (w3).heap.size x7 (scIns R y) := by
                unfold scIns; rw [HPOS.out]; unfold ScOwns OwnsR
                rw [List.length_append, List.length_cons, List.flatMap_append, List.flatMap_cons]
                have h7 := ho7
                simp only [List.length_cons, List.length_nil, List.flatMap_cons, List.flatMap_nil, List.append_nil, List.nil_append, Nat.zero_add, List.append_assoc] at h7
                rw [show (R.take (k)).length + ((R.drop (k)).length + 1) = (R.take (k)).length + 1 + (R.drop (k)).length by omega]
                exact h7
              have hoF : ScOwns w7 w.heap.size x7 (scIns R y) := ownsR_base hoF0 hwq2
              have hinl : (scIns R y).length ≤ 17 := by rw [scIns_len]; omega
              obtain ⟨ax, cx, hxv⟩ := readsR_shape (ownsR_reads scC_len hoF)
              subst hxv
              have hb7z := hB7.size
              clear hHeld HA HBc HS2 hab ho5 hg5 hb5 ho6 hg6 hb6 ho7 hg7 hb7 hoF0 hBq
              generalize scIns R y = O at *
              go_wp2_with fail
              refine (specScoresOk_any _ O _ (ownsR_reads scC_len hoF) (by omega)).mono ?_
              rintro e w8 ⟨rfl, hb8⟩
              have hB8 := hB7.trans (hb8.mono hb7z)
              have ho8 := ownsR_kept hoF hb8
              have hz8 := hB8.size
              clear hb8 hoF hB7
              cases hok2 : scOkB O with
              | true =>
                have HR : Hid (scPutR l y = O) := by show _ = _; unfold scPutR; rw [HOK.out, HPL.out, hok2]; rfl
                have HB : Hid (scPutB l y = true) := by show _ = _; unfold scPutB; rw [HOK.out, HPL.out, hok2]; rfl
                have HF : Hid (scPutF l y = ((R.length : Int) == (l.length : Int))) := by show _ = _; rw [HFL.out, HB.out]; rfl
                clear hok2
                go_wp2_with fail
                go_ret3
                exact ⟨_, by rw [HF.out, HB.out]; rfl, by rw [HR.out]; exact ho8, hB8⟩
              | false =>
                have HR : Hid (scPutR l y = l) := by show _ = _; unfold scPutR; rw [HOK.out, HPL.out, hok2]; rfl
                have HB : Hid (scPutB l y = false) := by show _ = _; unfold scPutB; rw [HOK.out, HPL.out, hok2]; rfl
                have HF : Hid (scPutF l y = false) := by show _ = _; rw [HFL.out, HB.out]; rfl
                have ho9 : (w8.alloc (.cells #[] 62)).ownsRow w.heap.size 62 2 (.slice (some ⟨w8.heap.size, 0, none⟩) 0 0) 0 [] := World.ownsRow_lit w8 #[] 0 hz8 (by simp) rfl
                have hB9 : Below w.heap.size w (w8.alloc (.cells #[] 62)) := hB8.alloc hz8 _
                have hr9 := readsR_kept hr hB9
                clear hok2 ho8
                go_wp2_with (at_builtin; refine append_R (c := scC) rfl (.tmp 47) (.tmp 48) 24 rfl w.heap.size 62 i0 _ 2 24 Try.underlying24 hi0 hz0 hz1 hz2 rfl (by decide) _ _ _ rfl ho9 _ rfl l hr9 scC_len scC_one (by unfold maxLen; omega) (by omega) (by simp; omega) ?_)
                intro xa wa howna hgrowa
                have hoa : ScOwns wa w.heap.size xa l := by unfold ScOwns OwnsR; simpa using howna
                have hBa : Below w.heap.size w wa := hB9.grown hgrowa (by simp; omega) (fun j hj => (ho9.lt j hj).1)
                clear howna hgrowa
                go_wp2_with fail
                go_ret3
                exact ⟨_, by rw [HF.out, HB.out]; rfl, by rw [HR.out]; exact hoa, hBa⟩
            · go_simp
              refine hK.out _ _ ?_ (fun hHeld => ?_)
              · exact HS2.out _ (((Below.refl (w3).heap.size (w3)).alloc (Nat.le_refl _) (.cells #[] 62)).alloc (by simp) (.cells #[.string y.1, .int .i64 y.2] 62)).drew
              clear hK K
              (try simp only [Act.put]); (try simp only [List.setIfInBounds_toArray]); (try simp only [List.set_cons_succ]); (try simp only [List.set_cons_zero])
              refine wpAnyH_ready (rs := [4]) (by kernel_rfl) (by simp) ?_
              refine AllReadyH.cons rfl (fun K hK => ?_) AllReadyH.nil
              refine step_append_R (c := scC) (d := some 36) rfl rfl (.tmp 32) (.tmp 35) 24 rfl (w3).heap.size 62 i0 _ 2 24 Try.underlying24 hi0 hz0 hz1 hz2 rfl (by decide) _ _ _ rfl (World.ownsRow.drew (World.ownsRow.alloc (World.ownsRow_lit (w3) #[] 0 (Nat.le_refl _) (by simp) rfl) (.cells #[.string y.1, .int .i64 y.2] 62))) _ rfl (R.take (k)) (readsR_kept HA.out (((Below.refl (w3).heap.size (w3)).alloc (Nat.le_refl _) (.cells #[] 62)).alloc (by simp) (.cells #[.string y.1, .int .i64 y.2] 62)).drew) scC_len scC_one (by unfold maxLen; simp; omega) (by simp; omega) (by simp; omega) ?_
              intro x5 w5 ho5 hg5
              have hb5 : Below (w3).heap.size (w3) w5 := Below.grown (((Below.refl (w3).heap.size (w3)).alloc (Nat.le_refl _) (.cells #[] 62)).alloc (by simp) (.cells #[.string y.1, .int .i64 y.2] 62)).drew hg5 (by simp; omega) (fun k hk => by cases hk; exact Nat.le_refl _)
              refine hK.out _ _ ?_ (fun hHeld => ?_)
              · exact HS2.out _ hb5
              clear hK K
              (try simp only [Act.put]); (try simp only [List.setIfInBounds_toArray]); (try simp only [List.set_cons_succ]); (try simp only [List.set_cons_zero])
              have hz5 := hb5.size
              have hq5 : w5.heap[(w3).heap.size + 1]? = some (.cells #[.string y.1, .int .i64 y.2] 62) := (hg5.block ((w3).heap.size + 1) (by simp) (show some ((w3).heap.size + 1) ≠ some (w3).heap.size by simp)).trans (heap_alloc2_new (w3) (.cells #[] 62) (.cells #[.string y.1, .int .i64 y.2] 62))
              refine wpAnyH_ready (rs := [7]) (by kernel_rfl) (by simp) ?_
              refine AllReadyH.cons rfl (fun K hK => ?_) AllReadyH.nil
              refine step_append_R (c := scC) (d := some 39) rfl rfl (.tmp 36) (.tmp 38) 24 rfl (w3).heap.size 62 i0 _ 2 24 Try.underlying24 hi0 hz0 hz1 hz2 rfl (by decide) _ _ _ rfl ho5 _ rfl [y] (sc_one_at hq5) scC_len scC_one (by unfold maxLen; simp; omega) (by simp; omega) hz5 ?_
              intro x6 w6 ho6 hg6
              have hb6 : Below (w3).heap.size (w3) w6 := Below.grown hb5 hg6 hz5 (fun k hk => (ho5.lt k hk).1)
              refine hK.out _ _ ?_ (fun hHeld => ?_)
              · exact HS2.out _ hb6
              clear hK K
              (try simp only [Act.put]); (try simp only [List.setIfInBounds_toArray]); (try simp only [List.set_cons_succ]); (try simp only [List.set_cons_zero])
              have hz6 := hb6.size
              refine wpAnyH_ready (rs := [11]) (by kernel_rfl) (by simp) ?_
              refine AllReadyH.cons rfl (fun K hK => ?_) AllReadyH.nil
              refine step_append_R (c := scC) (d := some 43) rfl rfl (.tmp 39) (.tmp 42) 24 rfl (w3).heap.size 62 i0 _ 2 24 Try.underlying24 hi0 hz0 hz1 hz2 rfl (by decide) _ _ _ rfl ho6 _ rfl (R.drop (k)) (readsR_kept HBc.out hb6) scC_len scC_one (by unfold maxLen; simp; omega) (by simp; omega) hz6 ?_
              intro x7 w7 ho7 hg7
              have hb7 : Below (w3).heap.size (w3) w7 := Below.grown hb6 hg7 hz6 (fun k hk => (ho6.lt k hk).1)
              refine hK.out _ _ ?_ (fun hHeld => ?_)
              · exact HS2.out _ hb7
              clear hK K
              (try simp only [Act.put]); (try simp only [List.setIfInBounds_toArray]); (try simp only [List.set_cons_succ]); (try simp only [List.set_cons_zero])
              refine takeH (i := 12) (d := (some 9)) (v := ?_) rfl rfl (by kernel_rfl) (by kernel_rfl) (by kernel_rfl) (fun _ _ _ h => h) (by kernel_rfl) ?_ (by assumption) ?_
              rotate_left
              · (intro w hSw; (try dsimp only at hSw); go_simp; try with_reducible rfl)
              (try simp only [Act.put]); (try simp only [List.setIfInBounds_toArray]); (try simp only [List.set_cons_succ]); (try simp only [List.set_cons_zero])
              refine wpAnyH_done (by kernel_rfl) ?_ _
              have hB7 : Below w.heap.size w w7 := hBq.trans (hb7.mono (by omega))
              have hoF0 : ScOwns w7 (w3).heap.size x7 (scIns R y) := by
                unfold scIns; rw [HPOS.out]; unfold ScOwns OwnsR
                rw [List.length_append, List.length_cons, List.flatMap_append, List.flatMap_cons]
                have h7 := ho7
                simp only [List.length_cons, List.length_nil, List.flatMap_cons, List.flatMap_nil, List.append_nil, List.nil_append, Nat.zero_add, List.append_assoc] at h7
                rw [show (R.take (k)).length + ((R.drop (k)).length + 1) = (R.take (k)).length + 1 + (R.drop (k)).length by omega]
                exact h7
              have hoF : ScOwns w7 w.heap.size x7 (scIns R y) := ownsR_base hoF0 hwq2
              have hinl : (scIns R y).length ≤ 17 := by rw [scIns_len]; omega
              obtain ⟨ax, cx, hxv⟩ := readsR_shape (ownsR_reads scC_len hoF)
              subst hxv
              have hb7z := hB7.size
              clear hHeld HA HBc HS2 hab ho5 hg5 hb5 ho6 hg6 hb6 ho7 hg7 hb7 hoF0 hBq
              generalize scIns R y = O at *
              go_wp2_with fail
              refine (specScoresOk_any _ O _ (ownsR_reads scC_len hoF) (by omega)).mono ?_
              rintro e w8 ⟨rfl, hb8⟩
              have hB8 := hB7.trans (hb8.mono hb7z)
              have ho8 := ownsR_kept hoF hb8
              have hz8 := hB8.size
              clear hb8 hoF hB7
              cases hok2 : scOkB O with
              | true =>
                have HR : Hid (scPutR l y = O) := by show _ = _; unfold scPutR; rw [HOK.out, HPL.out, hok2]; rfl
                have HB : Hid (scPutB l y = true) := by show _ = _; unfold scPutB; rw [HOK.out, HPL.out, hok2]; rfl
                have HF : Hid (scPutF l y = ((R.length : Int) == (l.length : Int))) := by show _ = _; rw [HFL.out, HB.out]; rfl
                clear hok2
                go_wp2_with fail
                go_ret3
                exact ⟨_, by rw [HF.out, HB.out]; rfl, by rw [HR.out]; exact ho8, hB8⟩
              | false =>
                have HR : Hid (scPutR l y = l) := by show _ = _; unfold scPutR; rw [HOK.out, HPL.out, hok2]; rfl
                have HB : Hid (scPutB l y = false) := by show _ = _; unfold scPutB; rw [HOK.out, HPL.out, hok2]; rfl
                have HF : Hid (scPutF l y = false) := by show _ = _; rw [HFL.out, HB.out]; rfl
                have ho9 : (w8.alloc (.cells #[] 62)).ownsRow w.heap.size 62 2 (.slice (some ⟨w8.heap.size, 0, none⟩) 0 0) 0 [] := World.ownsRow_lit w8 #[] 0 hz8 (by simp) rfl
                have hB9 : Below w.heap.size w (w8.alloc (.cells #[] 62)) := hB8.alloc hz8 _
                have hr9 := readsR_kept hr hB9
                clear hok2 ho8
                go_wp2_with (at_builtin; refine append_R (c := scC) rfl (.tmp 47) (.tmp 48) 24 rfl w.heap.size 62 i0 _ 2 24 Try.underlying24 hi0 hz0 hz1 hz2 rfl (by decide) _ _ _ rfl ho9 _ rfl l hr9 scC_len scC_one (by unfold maxLen; omega) (by omega) (by simp; omega) ?_)
                intro xa wa howna hgrowa
                have hoa : ScOwns wa w.heap.size xa l := by unfold ScOwns OwnsR; simpa using howna
                have hBa : Below w.heap.size w wa := hB9.grown hgrowa (by simp; omega) (fun j hj => (ho9.lt j hj).1)
                clear howna hgrowa
                go_wp2_with fail
                go_ret3
                exact ⟨_, by rw [HF.out, HB.out]; rfl, by rw [HR.out]; exact hoa, hBa⟩
          · go_simp
            refine hK.out _ _ ?_ (fun hHeld => ?_)
            · exact HS2.out _ ((Below.refl (w3).heap.size (w3)).alloc (Nat.le_refl _) (.cells #[.string y.1, .int .i64 y.2] 62)).drew
            clear hK K
            (try simp only [Act.put]); (try simp only [List.setIfInBounds_toArray]); (try simp only [List.set_cons_succ]); (try simp only [List.set_cons_zero])
            refine wpAnyH_ready (rs := [0]) (by kernel_rfl) (by simp) ?_
            refine AllReadyH.cons rfl (fun K hK => ?_) AllReadyH.nil
            go_simp
            refine hK.out _ _ ?_ (fun hHeld => ?_)
            · exact HS2.out _ (((Below.refl (w3).heap.size (w3)).alloc (Nat.le_refl _) (.cells #[.string y.1, .int .i64 y.2] 62)).alloc (by simp) (.cells #[] 62)).drew
            clear hK K
            (try simp only [Act.put]); (try simp only [List.setIfInBounds_toArray]); (try simp only [List.set_cons_succ]); (try simp only [List.set_cons_zero])
            refine wpAnyH_ready (rs := [4]) (by kernel_rfl) (by simp) ?_
            refine AllReadyH.cons rfl (fun K hK => ?_) AllReadyH.nil
            refine step_append_R (c := scC) (d := some 36) rfl rfl (.tmp 32) (.tmp 35) 24 rfl (w3).heap.size 62 i0 _ 2 24 Try.underlying24 hi0 hz0 hz1 hz2 rfl (by decide) _ _ _ rfl (World.ownsRow.drew hlitB) _ rfl (R.take (k)) (readsR_kept HA.out (((Below.refl (w3).heap.size (w3)).alloc (Nat.le_refl _) (.cells #[.string y.1, .int .i64 y.2] 62)).alloc (by simp) (.cells #[] 62)).drew) scC_len scC_one (by unfold maxLen; simp; omega) (by simp; omega) (by simp; omega) ?_
            intro x5 w5 ho5 hg5
            have hb5 : Below (w3).heap.size (w3) w5 := Below.grown (((Below.refl (w3).heap.size (w3)).alloc (Nat.le_refl _) (.cells #[.string y.1, .int .i64 y.2] 62)).alloc (by simp) (.cells #[] 62)).drew hg5 (by simp; omega) (fun k hk => by cases hk; simp)
            refine hK.out _ _ ?_ (fun hHeld => ?_)
            · exact HS2.out _ hb5
            clear hK K
            (try simp only [Act.put]); (try simp only [List.setIfInBounds_toArray]); (try simp only [List.set_cons_succ]); (try simp only [List.set_cons_zero])
            have hz5 := hb5.size
            have hq5 : w5.heap[(w3).heap.size]? = some (.cells #[.string y.1, .int .i64 y.2] 62) := (hg5.block (w3).heap.size (by simp; omega) (show some (w3).heap.size ≠ some ((w3).heap.size + 1) by simp)).trans ((Below.heap_alloc ((w3).alloc (.cells #[.string y.1, .int .i64 y.2] 62)) (.cells #[] 62) (w3).heap.size (by simp)).trans (heap_alloc_new (w3) (.cells #[.string y.1, .int .i64 y.2] 62)))
            refine wpAnyH_ready (rs := [7]) (by kernel_rfl) (by simp) ?_
            refine AllReadyH.cons rfl (fun K hK => ?_) AllReadyH.nil
            refine step_append_R (c := scC) (d := some 39) rfl rfl (.tmp 36) (.tmp 38) 24 rfl (w3).heap.size 62 i0 _ 2 24 Try.underlying24 hi0 hz0 hz1 hz2 rfl (by decide) _ _ _ rfl ho5 _ rfl [y] (sc_one_at hq5) scC_len scC_one (by unfold maxLen; simp; omega) (by simp; omega) hz5 ?_
            intro x6 w6 ho6 hg6
            have hb6 : Below (w3).heap.size (w3) w6 := Below.grown hb5 hg6 hz5 (fun k hk => (ho5.lt k hk).1)
            refine hK.out _ _ ?_ (fun hHeld => ?_)
            · exact HS2.out _ hb6
            clear hK K
            (try simp only [Act.put]); (try simp only [List.setIfInBounds_toArray]); (try simp only [List.set_cons_succ]); (try simp only [List.set_cons_zero])
            have hz6 := hb6.size
            refine wpAnyH_ready (rs := [11]) (by kernel_rfl) (by simp) ?_
            refine AllReadyH.cons rfl (fun K hK => ?_) AllReadyH.nil
            refine step_append_R (c := scC) (d := some 43) rfl rfl (.tmp 39) (.tmp 42) 24 rfl (w3).heap.size 62 i0 _ 2 24 Try.underlying24 hi0 hz0 hz1 hz2 rfl (by decide) _ _ _ rfl ho6 _ rfl (R.drop (k)) (readsR_kept HBc.out hb6) scC_len scC_one (by unfold maxLen; simp; omega) (by simp; omega) hz6 ?_
            intro x7 w7 ho7 hg7
            have hb7 : Below (w3).heap.size (w3) w7 := Below.grown hb6 hg7 hz6 (fun k hk => (ho6.lt k hk).1)
            refine hK.out _ _ ?_ (fun hHeld => ?_)
            · exact HS2.out _ hb7
            clear hK K
            (try simp only [Act.put]); (try simp only [List.setIfInBounds_toArray]); (try simp only [List.set_cons_succ]); (try simp only [List.set_cons_zero])
            refine takeH (i := 12) (d := (some 9)) (v := ?_) rfl rfl (by kernel_rfl) (by kernel_rfl) (by kernel_rfl) (fun _ _ _ h => h) (by kernel_rfl) ?_ (by assumption) ?_
            rotate_left
            · (intro w hSw; (try dsimp only at hSw); go_simp; try with_reducible rfl)
            (try simp only [Act.put]); (try simp only [List.setIfInBounds_toArray]); (try simp only [List.set_cons_succ]); (try simp only [List.set_cons_zero])
            refine wpAnyH_done (by kernel_rfl) ?_ _
            have hB7 : Below w.heap.size w w7 := hBq.trans (hb7.mono (by omega))
            have hoF0 : ScOwns w7 (w3).heap.size x7 (scIns R y) := by
              unfold scIns; rw [HPOS.out]; unfold ScOwns OwnsR
              rw [List.length_append, List.length_cons, List.flatMap_append, List.flatMap_cons]
              have h7 := ho7
              simp only [List.length_cons, List.length_nil, List.flatMap_cons, List.flatMap_nil, List.append_nil, List.nil_append, Nat.zero_add, List.append_assoc] at h7
              rw [show (R.take (k)).length + ((R.drop (k)).length + 1) = (R.take (k)).length + 1 + (R.drop (k)).length by omega]
              exact h7
            have hoF : ScOwns w7 w.heap.size x7 (scIns R y) := ownsR_base hoF0 hwq2
            have hinl : (scIns R y).length ≤ 17 := by rw [scIns_len]; omega
            obtain ⟨ax, cx, hxv⟩ := readsR_shape (ownsR_reads scC_len hoF)
            subst hxv
            have hb7z := hB7.size
            clear hHeld HA HBc HS2 hab ho5 hg5 hb5 ho6 hg6 hb6 ho7 hg7 hb7 hoF0 hBq
            generalize scIns R y = O at *
            go_wp2_with fail
            refine (specScoresOk_any _ O _ (ownsR_reads scC_len hoF) (by omega)).mono ?_
            rintro e w8 ⟨rfl, hb8⟩
            have hB8 := hB7.trans (hb8.mono hb7z)
            have ho8 := ownsR_kept hoF hb8
            have hz8 := hB8.size
            clear hb8 hoF hB7
            cases hok2 : scOkB O with
            | true =>
              have HR : Hid (scPutR l y = O) := by show _ = _; unfold scPutR; rw [HOK.out, HPL.out, hok2]; rfl
              have HB : Hid (scPutB l y = true) := by show _ = _; unfold scPutB; rw [HOK.out, HPL.out, hok2]; rfl
              have HF : Hid (scPutF l y = ((R.length : Int) == (l.length : Int))) := by show _ = _; rw [HFL.out, HB.out]; rfl
              clear hok2
              go_wp2_with fail
              go_ret3
              exact ⟨_, by rw [HF.out, HB.out]; rfl, by rw [HR.out]; exact ho8, hB8⟩
            | false =>
              have HR : Hid (scPutR l y = l) := by show _ = _; unfold scPutR; rw [HOK.out, HPL.out, hok2]; rfl
              have HB : Hid (scPutB l y = false) := by show _ = _; unfold scPutB; rw [HOK.out, HPL.out, hok2]; rfl
              have HF : Hid (scPutF l y = false) := by show _ = _; rw [HFL.out, HB.out]; rfl
              have ho9 : (w8.alloc (.cells #[] 62)).ownsRow w.heap.size 62 2 (.slice (some ⟨w8.heap.size, 0, none⟩) 0 0) 0 [] := World.ownsRow_lit w8 #[] 0 hz8 (by simp) rfl
              have hB9 : Below w.heap.size w (w8.alloc (.cells #[] 62)) := hB8.alloc hz8 _
              have hr9 := readsR_kept hr hB9
              clear hok2 ho8
              go_wp2_with (at_builtin; refine append_R (c := scC) rfl (.tmp 47) (.tmp 48) 24 rfl w.heap.size 62 i0 _ 2 24 Try.underlying24 hi0 hz0 hz1 hz2 rfl (by decide) _ _ _ rfl ho9 _ rfl l hr9 scC_len scC_one (by unfold maxLen; omega) (by omega) (by simp; omega) ?_)
              intro xa wa howna hgrowa
              have hoa : ScOwns wa w.heap.size xa l := by unfold ScOwns OwnsR; simpa using howna
              have hBa : Below w.heap.size w wa := hB9.grown hgrowa (by simp; omega) (fun j hj => (ho9.lt j hj).1)
              clear howna hgrowa
              go_wp2_with fail
              go_ret3
              exact ⟨_, by rw [HF.out, HB.out]; rfl, by rw [HR.out]; exact hoa, hBa⟩
      · have HPOS : Hid (scIPos R y = k) := by
          have e : k = R.length := by omega
          show _ = _; rw [scIPos_end (by rw [← e]; exact hlow), e]
        have hd : decide ((k : Int) < (R.length : Int)) = false := by simp; omega
        go_wp2_with fail
        refine wp_region_held_drew (S := (fun _ => True)) (by kernel_rfl) (by trivial) (fun hHeld => ?_)
        refine takeH (i := 0) (d := (some 18)) (v := ?_) rfl rfl (by kernel_rfl) (by kernel_rfl) (by kernel_rfl) (fun _ _ _ h => h) (by kernel_rfl) ?_ (by assumption) ?_
        rotate_left
        · (intro w hSw; (try dsimp only at hSw); go_simp; try with_reducible rfl)
        try simp only [Act.put, List.setIfInBounds_toArray, List.set_cons_succ, List.set_cons_zero]
        refine takeH (i := 1) (d := (some 19)) (v := ?_) rfl rfl (by kernel_rfl) (by kernel_rfl) (by kernel_rfl) (fun _ _ _ h => h) (by kernel_rfl) ?_ (by assumption) ?_
        rotate_left
        · (intro w hSw; (try dsimp only at hSw); go_simp; try with_reducible rfl)
        try simp only [Act.put, List.setIfInBounds_toArray, List.set_cons_succ, List.set_cons_zero]
        refine takeH (i := 2) (d := (some 20)) (v := ?_) rfl rfl (by kernel_rfl) (by kernel_rfl) (by kernel_rfl) (fun _ _ _ h => h) (by kernel_rfl) ?_ (by assumption) ?_
        rotate_left
        · (intro w hSw; (try dsimp only at hSw); go_simp; try with_reducible rfl)
        try simp only [Act.put, List.setIfInBounds_toArray, List.set_cons_succ, List.set_cons_zero]
        refine takeH (i := 3) (d := (some 21)) (v := ?_) rfl rfl (by kernel_rfl) (by kernel_rfl) (by kernel_rfl) (fun _ _ _ h => h) (by kernel_rfl) ?_ (by assumption) ?_
        rotate_left
        · (intro w hSw; (try dsimp only at hSw); go_simp; try with_reducible rfl)
        try simp only [Act.put, List.setIfInBounds_toArray, List.set_cons_succ, List.set_cons_zero]
        refine takeH (i := 4) (d := (some 22)) (v := ?_) rfl rfl (by kernel_rfl) (by kernel_rfl) (by kernel_rfl) (fun _ _ _ h => h) (by kernel_rfl) ?_ (by assumption) ?_
        rotate_left
        · (intro w hSw; (try dsimp only at hSw); go_simp; try with_reducible rfl)
        try simp only [Act.put, List.setIfInBounds_toArray, List.set_cons_succ, List.set_cons_zero]
        refine skipH (i := 5) (d := (some 23)) rfl rfl (by kernel_rfl) (by kernel_rfl) (by kernel_rfl) (fun _ _ _ h => h) (by kernel_rfl) (by assumption) ?_
        try simp only [Act.put, List.setIfInBounds_toArray, List.set_cons_succ, List.set_cons_zero]
        refine skipH (i := 6) (d := (some 24)) rfl rfl (by kernel_rfl) (by kernel_rfl) (by kernel_rfl) (fun _ _ _ h => h) (by kernel_rfl) (by assumption) ?_
        try simp only [Act.put, List.setIfInBounds_toArray, List.set_cons_succ, List.set_cons_zero]
        refine skipH (i := 7) (d := (some 25)) rfl rfl (by kernel_rfl) (by kernel_rfl) (by kernel_rfl) (fun _ _ _ h => h) (by kernel_rfl) (by assumption) ?_
        try simp only [Act.put, List.setIfInBounds_toArray, List.set_cons_succ, List.set_cons_zero]
        refine skipH (i := 8) (d := (some 26)) rfl rfl (by kernel_rfl) (by kernel_rfl) (by kernel_rfl) (fun _ _ _ h => h) (by kernel_rfl) (by assumption) ?_
        try simp only [Act.put, List.setIfInBounds_toArray, List.set_cons_succ, List.set_cons_zero]
        refine skipH (i := 9) (d := (some 27)) rfl rfl (by kernel_rfl) (by kernel_rfl) (by kernel_rfl) (fun _ _ _ h => h) (by kernel_rfl) (by assumption) ?_
        try simp only [Act.put, List.setIfInBounds_toArray, List.set_cons_succ, List.set_cons_zero]
        refine skipH (i := 10) (d := (some 28)) rfl rfl (by kernel_rfl) (by kernel_rfl) (by kernel_rfl) (fun _ _ _ h => h) (by kernel_rfl) (by assumption) ?_
        try simp only [Act.put, List.setIfInBounds_toArray, List.set_cons_succ, List.set_cons_zero]
        refine takeH (i := 11) (d := (some 29)) (v := ?_) rfl rfl (by kernel_rfl) (by kernel_rfl) (by kernel_rfl) (fun _ _ _ h => h) (by kernel_rfl) ?_ (by assumption) ?_
        rotate_left
        · (intro w hSw; (try dsimp only at hSw); go_simp; try with_reducible rfl)
        try simp only [Act.put, List.setIfInBounds_toArray, List.set_cons_succ, List.set_cons_zero]
        refine wpAnyH_done (by kernel_rfl) ?_ _
        clear hHeld hd
        go_wp2_with fail
        have hbq : Below w2.heap.size w2 wr.drew := hbr.drew
        clear hpr hor hbr hszr
        generalize wr.drew = wq at hbq ⊢
        have hoq := ownsR_kept ho2 hbq
        have hpq := sc_cell_kept hp2 hbq (by omega)
        have hqz := (hbq).size
        have hgq : g < (wq).heap.size := (World.ownsRow.lt hoq g rfl).2
        have hwq : w.heap.size < (wq).heap.size := by omega
        have hwq2 : w.heap.size ≤ (wq).heap.size := by omega
        have hrq := readsR_at (ownsR_reads scC_len hoq)
        have hBq : Below w.heap.size w (wq) := hB2.trans ((hbq).mono (by omega))
        have HA : Hid (ReadsR scC 2 (wq) (.slice (some ⟨g, 0, none⟩) (k) c2) (R.take (k))) := by
          have := readsR_cut (sz := 2) (c := scC) hgq hgb hgz hrq (ao := some ⟨g, 0, none⟩) (a := 0) (e := k) (n := k) (k := c2) (fun _ => by simp) (by simp) (Nat.zero_le _) (by omega) (by omega) (by omega)
          rw [List.drop_zero] at this; exact this
        obtain ⟨ab, hab⟩ : ∃ ab, (if c2 = k then some (⟨g, 0, none⟩ : Addr) else some ⟨g, (k) * 2, none⟩) = ab := ⟨_, rfl⟩
        have HBc : Hid (ReadsR scC 2 (wq) (.slice ab (R.length - (k)) (c2 - (k))) (R.drop (k))) := by
          have := readsR_cut (sz := 2) (c := scC) hgq hgb hgz hrq (ao := ab) (a := k) (e := R.length) (n := R.length - (k)) (k := c2 - (k)) (fun h => by rw [← hab, if_neg h]; simp) (by rw [← hab]; split <;> simp) (by omega) (Nat.le_refl _) rfl rfl
          rw [List.take_length] at this; exact this
        have HS2 : Hid (∀ w', Below (wq).heap.size (wq) w' → (w'.cell? ⟨w.heap.size, 0, none⟩ = some (.string y.1) ∧ w'.cell? ⟨w.heap.size, 1, none⟩ = some (.int .i64 y.2))) := fun w' h => ⟨(h.cell (p := ⟨w.heap.size, 0, none⟩) hwq).trans hpq.1, (h.cell (p := ⟨w.heap.size, 1, none⟩) hwq).trans hpq.2⟩
        have hj1 : ((k : Nat) : Int) ≤ (c2 : Int) := by omega
        have hj2 : ((k : Nat) : Int) ≤ (R.length : Int) := by omega
        have hj3 : (R.length : Int) ≤ (c2 : Int) := by omega
        have hRl : R.length ≤ 16 := by omega
        have hlw : ∀ (A : Array Value), A.size = 0 → Below (wq).heap.size (wq) ((wq).alloc (.cells A 62)) := fun A _ => (Below.refl _ _).alloc (Nat.le_refl _) _
        clear hoq hpq hrq hlw
        have hlitB : (((wq).alloc (.cells #[.string y.1, .int .i64 y.2] 62)).alloc (.cells #[] 62)).ownsRow (wq).heap.size 62 2 (.slice (some ⟨(wq).heap.size + 1, 0, none⟩) 0 0) 0 [] := by
          have := World.ownsRow_lit (base := (wq).heap.size) (e := 62) (size := 2) ((wq).alloc (.cells #[.string y.1, .int .i64 y.2] 62)) #[] 0 (by simp) (by simp) rfl
          rw [World.size_alloc] at this; exact this
        refine wp_region_held_drew (S := (fun w' => w'.cell? ⟨w.heap.size, 0, none⟩ = some (.string y.1) ∧ w'.cell? ⟨w.heap.size, 1, none⟩ = some (.int .i64 y.2))) (by kernel_rfl) (by exact HS2.out _ (Below.refl _ _).drew) (fun hHeld => ?_)
        refine takeH (i := 1) (d := (some 33)) (v := ?_) rfl rfl (by kernel_rfl) (by kernel_rfl) (by kernel_rfl) (fun _ _ _ h => h) (by kernel_rfl) ?_ (by assumption) ?_
        rotate_left
        · (intro w hSw; (try dsimp only at hSw); go_simp; try with_reducible rfl)
        try simp only [Act.put, List.setIfInBounds_toArray, List.set_cons_succ, List.set_cons_zero]
        refine takeH (i := 2) (d := (some 34)) (v := ?_) rfl rfl (by kernel_rfl) (by kernel_rfl) (by kernel_rfl) (fun _ _ _ h => h) (by kernel_rfl) ?_ (by assumption) ?_
        rotate_left
        · (intro w hSw; (try dsimp only at hSw); go_simp; try with_reducible rfl)
        try simp only [Act.put, List.setIfInBounds_toArray, List.set_cons_succ, List.set_cons_zero]
        refine takeH (i := 3) (d := (some 35)) (v := ?_) rfl rfl (by kernel_rfl) (by kernel_rfl) (by kernel_rfl) (fun _ _ _ h => h) (by kernel_rfl) ?_ (by assumption) ?_
        rotate_left
        · (intro w hSw; (try dsimp only at hSw); go_simp; try with_reducible rfl)
        try simp only [Act.put, List.setIfInBounds_toArray, List.set_cons_succ, List.set_cons_zero]
        refine takeH (i := 5) (d := (some 37)) (v := ?_) rfl rfl (by kernel_rfl) (by kernel_rfl) (by kernel_rfl) (fun _ _ _ h => h) (by kernel_rfl) ?_ (by assumption) ?_
        rotate_left
        · (intro w hSw; (try dsimp only at hSw); go_simp; try with_reducible rfl)
        try simp only [Act.put, List.setIfInBounds_toArray, List.set_cons_succ, List.set_cons_zero]
        refine takeH (i := 8) (d := (some 40)) (v := ?_) rfl rfl (by kernel_rfl) (by kernel_rfl) (by kernel_rfl) (fun _ _ _ h => h) (by kernel_rfl) ?_ (by assumption) ?_
        rotate_left
        · (intro w hSw; (try dsimp only at hSw); go_simp; try with_reducible rfl)
        try simp only [Act.put, List.setIfInBounds_toArray, List.set_cons_succ, List.set_cons_zero]
        refine takeH (i := 9) (d := (some 41)) (v := ?_) rfl rfl (by kernel_rfl) (by kernel_rfl) (by kernel_rfl) (fun _ _ _ h => h) (by kernel_rfl) ?_ (by assumption) ?_
        rotate_left
        · (intro w hSw; (try dsimp only at hSw); go_simp; try with_reducible rfl)
        try simp only [Act.put, List.setIfInBounds_toArray, List.set_cons_succ, List.set_cons_zero]
        refine takeH (i := 10) (d := (some 42)) (v := ?_) rfl rfl (by kernel_rfl) (by kernel_rfl) (by kernel_rfl) (fun _ _ _ h => h) (by kernel_rfl) ?_ (by assumption) ?_
        rotate_left
        · (intro w hSw; (try dsimp only at hSw); go_simp; try with_reducible rfl)
        try simp only [Act.put, List.setIfInBounds_toArray, List.set_cons_succ, List.set_cons_zero]
        refine wpAnyH_ready (rs := [0, 6]) (by kernel_rfl) (by simp) ?_
        refine AllReadyH.cons rfl (fun K hK => ?_) (AllReadyH.cons rfl (fun K hK => ?_) AllReadyH.nil)
        · go_simp
          refine hK.out _ _ ?_ (fun hHeld => ?_)
          · exact HS2.out _ ((Below.refl (wq).heap.size (wq)).alloc (Nat.le_refl _) (.cells #[] 62)).drew
          clear hK K
          (try simp only [Act.put]); (try simp only [List.setIfInBounds_toArray]); (try simp only [List.set_cons_succ]); (try simp only [List.set_cons_zero])
          refine wpAnyH_ready (rs := [4, 6]) (by kernel_rfl) (by simp) ?_
          refine AllReadyH.cons rfl (fun K hK => ?_) (AllReadyH.cons rfl (fun K hK => ?_) AllReadyH.nil)
          · refine step_append_R (c := scC) (d := some 36) rfl rfl (.tmp 32) (.tmp 35) 24 rfl (wq).heap.size 62 i0 _ 2 24 Try.underlying24 hi0 hz0 hz1 hz2 rfl (by decide) _ _ _ rfl (World.ownsRow.drew (World.ownsRow_lit (wq) #[] 0 (Nat.le_refl _) (by simp) rfl)) _ rfl (R.take (k)) (readsR_kept HA.out ((Below.refl (wq).heap.size (wq)).alloc (Nat.le_refl _) (.cells #[] 62)).drew) scC_len scC_one (by unfold maxLen; simp; omega) (by simp; omega) (by simp) ?_
            intro x5 w5 ho5 hg5
            have hb5 : Below (wq).heap.size (wq) w5 := Below.grown ((Below.refl (wq).heap.size (wq)).alloc (Nat.le_refl _) (.cells #[] 62)).drew hg5 (by simp) (fun k hk => by cases hk; exact Nat.le_refl _)
            refine hK.out _ _ ?_ (fun hHeld => ?_)
            · exact HS2.out _ hb5
            clear hK K
            (try simp only [Act.put]); (try simp only [List.setIfInBounds_toArray]); (try simp only [List.set_cons_succ]); (try simp only [List.set_cons_zero])
            have hz5 := hb5.size
            refine wpAnyH_ready (rs := [6]) (by kernel_rfl) (by simp) ?_
            refine AllReadyH.cons rfl (fun K hK => ?_) AllReadyH.nil
            go_simp
            refine hK.out _ _ ?_ (fun hHeld => ?_)
            · exact HS2.out _ (hb5.alloc hz5 (.cells #[.string y.1, .int .i64 y.2] 62))
            clear hK K
            (try simp only [Act.put]); (try simp only [List.setIfInBounds_toArray]); (try simp only [List.set_cons_succ]); (try simp only [List.set_cons_zero])
            refine wpAnyH_ready (rs := [7]) (by kernel_rfl) (by simp) ?_
            refine AllReadyH.cons rfl (fun K hK => ?_) AllReadyH.nil
            refine step_append_R (c := scC) (d := some 39) rfl rfl (.tmp 36) (.tmp 38) 24 rfl (wq).heap.size 62 i0 _ 2 24 Try.underlying24 hi0 hz0 hz1 hz2 rfl (by decide) _ _ _ rfl (World.ownsRow.alloc ho5 (.cells #[.string y.1, .int .i64 y.2] 62)) _ rfl [y] (sc_one_at (heap_alloc_new w5 (.cells #[.string y.1, .int .i64 y.2] 62))) scC_len scC_one (by unfold maxLen; simp; omega) (by simp; omega) (by simp; omega) ?_
            intro x6 w6 ho6 hg6
            have hb6 : Below (wq).heap.size (wq) w6 := Below.grown (hb5.alloc hz5 (.cells #[.string y.1, .int .i64 y.2] 62)) hg6 (by simp; omega) (fun k hk => (ho5.lt k hk).1)
            refine hK.out _ _ ?_ (fun hHeld => ?_)
            · exact HS2.out _ hb6
            clear hK K
            (try simp only [Act.put]); (try simp only [List.setIfInBounds_toArray]); (try simp only [List.set_cons_succ]); (try simp only [List.set_cons_zero])
            have hz6 := hb6.size
            refine wpAnyH_ready (rs := [11]) (by kernel_rfl) (by simp) ?_
            refine AllReadyH.cons rfl (fun K hK => ?_) AllReadyH.nil
            refine step_append_R (c := scC) (d := some 43) rfl rfl (.tmp 39) (.tmp 42) 24 rfl (wq).heap.size 62 i0 _ 2 24 Try.underlying24 hi0 hz0 hz1 hz2 rfl (by decide) _ _ _ rfl ho6 _ rfl (R.drop (k)) (readsR_kept HBc.out hb6) scC_len scC_one (by unfold maxLen; simp; omega) (by simp; omega) hz6 ?_
            intro x7 w7 ho7 hg7
            have hb7 : Below (wq).heap.size (wq) w7 := Below.grown hb6 hg7 hz6 (fun k hk => (ho6.lt k hk).1)
            refine hK.out _ _ ?_ (fun hHeld => ?_)
            · exact HS2.out _ hb7
            clear hK K
            (try simp only [Act.put]); (try simp only [List.setIfInBounds_toArray]); (try simp only [List.set_cons_succ]); (try simp only [List.set_cons_zero])
            refine takeH (i := 12) (d := (some 9)) (v := ?_) rfl rfl (by kernel_rfl) (by kernel_rfl) (by kernel_rfl) (fun _ _ _ h => h) (by kernel_rfl) ?_ (by assumption) ?_
            rotate_left
            · (intro w hSw; (try dsimp only at hSw); go_simp; try with_reducible rfl)
            (try simp only [Act.put]); (try simp only [List.setIfInBounds_toArray]); (try simp only [List.set_cons_succ]); (try simp only [List.set_cons_zero])
            refine wpAnyH_done (by kernel_rfl) ?_ _
            have hB7 : Below w.heap.size w w7 := hBq.trans (hb7.mono (by omega))
            have hoF0 : ScOwns w7 (wq).heap.size x7 (scIns R y) := by
              unfold scIns; rw [HPOS.out]; unfold ScOwns OwnsR
              rw [List.length_append, List.length_cons, List.flatMap_append, List.flatMap_cons]
              have h7 := ho7
              simp only [List.length_cons, List.length_nil, List.flatMap_cons, List.flatMap_nil, List.append_nil, List.nil_append, Nat.zero_add, List.append_assoc] at h7
              rw [show (R.take (k)).length + ((R.drop (k)).length + 1) = (R.take (k)).length + 1 + (R.drop (k)).length by omega]
              exact h7
            have hoF : ScOwns w7 w.heap.size x7 (scIns R y) := ownsR_base hoF0 hwq2
            have hinl : (scIns R y).length ≤ 17 := by rw [scIns_len]; omega
            obtain ⟨ax, cx, hxv⟩ := readsR_shape (ownsR_reads scC_len hoF)
            subst hxv
            have hb7z := hB7.size
            clear hHeld HA HBc HS2 hab ho5 hg5 hb5 ho6 hg6 hb6 ho7 hg7 hb7 hoF0 hBq
            generalize scIns R y = O at *
            go_wp2_with fail
            refine (specScoresOk_any _ O _ (ownsR_reads scC_len hoF) (by omega)).mono ?_
            rintro e w8 ⟨rfl, hb8⟩
            have hB8 := hB7.trans (hb8.mono hb7z)
            have ho8 := ownsR_kept hoF hb8
            have hz8 := hB8.size
            clear hb8 hoF hB7
            cases hok2 : scOkB O with
            | true =>
              have HR : Hid (scPutR l y = O) := by show _ = _; unfold scPutR; rw [HOK.out, HPL.out, hok2]; rfl
              have HB : Hid (scPutB l y = true) := by show _ = _; unfold scPutB; rw [HOK.out, HPL.out, hok2]; rfl
              have HF : Hid (scPutF l y = ((R.length : Int) == (l.length : Int))) := by show _ = _; rw [HFL.out, HB.out]; rfl
              clear hok2
              go_wp2_with fail
              go_ret3
              exact ⟨_, by rw [HF.out, HB.out]; rfl, by rw [HR.out]; exact ho8, hB8⟩
            | false =>
              have HR : Hid (scPutR l y = l) := by show _ = _; unfold scPutR; rw [HOK.out, HPL.out, hok2]; rfl
              have HB : Hid (scPutB l y = false) := by show _ = _; unfold scPutB; rw [HOK.out, HPL.out, hok2]; rfl
              have HF : Hid (scPutF l y = false) := by show _ = _; rw [HFL.out, HB.out]; rfl
              have ho9 : (w8.alloc (.cells #[] 62)).ownsRow w.heap.size 62 2 (.slice (some ⟨w8.heap.size, 0, none⟩) 0 0) 0 [] := World.ownsRow_lit w8 #[] 0 hz8 (by simp) rfl
              have hB9 : Below w.heap.size w (w8.alloc (.cells #[] 62)) := hB8.alloc hz8 _
              have hr9 := readsR_kept hr hB9
              clear hok2 ho8
              go_wp2_with (at_builtin; refine append_R (c := scC) rfl (.tmp 47) (.tmp 48) 24 rfl w.heap.size 62 i0 _ 2 24 Try.underlying24 hi0 hz0 hz1 hz2 rfl (by decide) _ _ _ rfl ho9 _ rfl l hr9 scC_len scC_one (by unfold maxLen; omega) (by omega) (by simp; omega) ?_)
              intro xa wa howna hgrowa
              have hoa : ScOwns wa w.heap.size xa l := by unfold ScOwns OwnsR; simpa using howna
              have hBa : Below w.heap.size w wa := hB9.grown hgrowa (by simp; omega) (fun j hj => (ho9.lt j hj).1)
              clear howna hgrowa
              go_wp2_with fail
              go_ret3
              exact ⟨_, by rw [HF.out, HB.out]; rfl, by rw [HR.out]; exact hoa, hBa⟩
          · go_simp
            refine hK.out _ _ ?_ (fun hHeld => ?_)
            · exact HS2.out _ (((Below.refl (wq).heap.size (wq)).alloc (Nat.le_refl _) (.cells #[] 62)).alloc (by simp) (.cells #[.string y.1, .int .i64 y.2] 62)).drew
            clear hK K
            (try simp only [Act.put]); (try simp only [List.setIfInBounds_toArray]); (try simp only [List.set_cons_succ]); (try simp only [List.set_cons_zero])
            refine wpAnyH_ready (rs := [4]) (by kernel_rfl) (by simp) ?_
            refine AllReadyH.cons rfl (fun K hK => ?_) AllReadyH.nil
            refine step_append_R (c := scC) (d := some 36) rfl rfl (.tmp 32) (.tmp 35) 24 rfl (wq).heap.size 62 i0 _ 2 24 Try.underlying24 hi0 hz0 hz1 hz2 rfl (by decide) _ _ _ rfl (World.ownsRow.drew (World.ownsRow.alloc (World.ownsRow_lit (wq) #[] 0 (Nat.le_refl _) (by simp) rfl) (.cells #[.string y.1, .int .i64 y.2] 62))) _ rfl (R.take (k)) (readsR_kept HA.out (((Below.refl (wq).heap.size (wq)).alloc (Nat.le_refl _) (.cells #[] 62)).alloc (by simp) (.cells #[.string y.1, .int .i64 y.2] 62)).drew) scC_len scC_one (by unfold maxLen; simp; omega) (by simp; omega) (by simp; omega) ?_
            intro x5 w5 ho5 hg5
            have hb5 : Below (wq).heap.size (wq) w5 := Below.grown (((Below.refl (wq).heap.size (wq)).alloc (Nat.le_refl _) (.cells #[] 62)).alloc (by simp) (.cells #[.string y.1, .int .i64 y.2] 62)).drew hg5 (by simp; omega) (fun k hk => by cases hk; exact Nat.le_refl _)
            refine hK.out _ _ ?_ (fun hHeld => ?_)
            · exact HS2.out _ hb5
            clear hK K
            (try simp only [Act.put]); (try simp only [List.setIfInBounds_toArray]); (try simp only [List.set_cons_succ]); (try simp only [List.set_cons_zero])
            have hz5 := hb5.size
            have hq5 : w5.heap[(wq).heap.size + 1]? = some (.cells #[.string y.1, .int .i64 y.2] 62) := (hg5.block ((wq).heap.size + 1) (by simp) (show some ((wq).heap.size + 1) ≠ some (wq).heap.size by simp)).trans (heap_alloc2_new (wq) (.cells #[] 62) (.cells #[.string y.1, .int .i64 y.2] 62))
            refine wpAnyH_ready (rs := [7]) (by kernel_rfl) (by simp) ?_
            refine AllReadyH.cons rfl (fun K hK => ?_) AllReadyH.nil
            refine step_append_R (c := scC) (d := some 39) rfl rfl (.tmp 36) (.tmp 38) 24 rfl (wq).heap.size 62 i0 _ 2 24 Try.underlying24 hi0 hz0 hz1 hz2 rfl (by decide) _ _ _ rfl ho5 _ rfl [y] (sc_one_at hq5) scC_len scC_one (by unfold maxLen; simp; omega) (by simp; omega) hz5 ?_
            intro x6 w6 ho6 hg6
            have hb6 : Below (wq).heap.size (wq) w6 := Below.grown hb5 hg6 hz5 (fun k hk => (ho5.lt k hk).1)
            refine hK.out _ _ ?_ (fun hHeld => ?_)
            · exact HS2.out _ hb6
            clear hK K
            (try simp only [Act.put]); (try simp only [List.setIfInBounds_toArray]); (try simp only [List.set_cons_succ]); (try simp only [List.set_cons_zero])
            have hz6 := hb6.size
            refine wpAnyH_ready (rs := [11]) (by kernel_rfl) (by simp) ?_
            refine AllReadyH.cons rfl (fun K hK => ?_) AllReadyH.nil
            refine step_append_R (c := scC) (d := some 43) rfl rfl (.tmp 39) (.tmp 42) 24 rfl (wq).heap.size 62 i0 _ 2 24 Try.underlying24 hi0 hz0 hz1 hz2 rfl (by decide) _ _ _ rfl ho6 _ rfl (R.drop (k)) (readsR_kept HBc.out hb6) scC_len scC_one (by unfold maxLen; simp; omega) (by simp; omega) hz6 ?_
            intro x7 w7 ho7 hg7
            have hb7 : Below (wq).heap.size (wq) w7 := Below.grown hb6 hg7 hz6 (fun k hk => (ho6.lt k hk).1)
            refine hK.out _ _ ?_ (fun hHeld => ?_)
            · exact HS2.out _ hb7
            clear hK K
            (try simp only [Act.put]); (try simp only [List.setIfInBounds_toArray]); (try simp only [List.set_cons_succ]); (try simp only [List.set_cons_zero])
            refine takeH (i := 12) (d := (some 9)) (v := ?_) rfl rfl (by kernel_rfl) (by kernel_rfl) (by kernel_rfl) (fun _ _ _ h => h) (by kernel_rfl) ?_ (by assumption) ?_
            rotate_left
            · (intro w hSw; (try dsimp only at hSw); go_simp; try with_reducible rfl)
            (try simp only [Act.put]); (try simp only [List.setIfInBounds_toArray]); (try simp only [List.set_cons_succ]); (try simp only [List.set_cons_zero])
            refine wpAnyH_done (by kernel_rfl) ?_ _
            have hB7 : Below w.heap.size w w7 := hBq.trans (hb7.mono (by omega))
            have hoF0 : ScOwns w7 (wq).heap.size x7 (scIns R y) := by
              unfold scIns; rw [HPOS.out]; unfold ScOwns OwnsR
              rw [List.length_append, List.length_cons, List.flatMap_append, List.flatMap_cons]
              have h7 := ho7
              simp only [List.length_cons, List.length_nil, List.flatMap_cons, List.flatMap_nil, List.append_nil, List.nil_append, Nat.zero_add, List.append_assoc] at h7
              rw [show (R.take (k)).length + ((R.drop (k)).length + 1) = (R.take (k)).length + 1 + (R.drop (k)).length by omega]
              exact h7
            have hoF : ScOwns w7 w.heap.size x7 (scIns R y) := ownsR_base hoF0 hwq2
            have hinl : (scIns R y).length ≤ 17 := by rw [scIns_len]; omega
            obtain ⟨ax, cx, hxv⟩ := readsR_shape (ownsR_reads scC_len hoF)
            subst hxv
            have hb7z := hB7.size
            clear hHeld HA HBc HS2 hab ho5 hg5 hb5 ho6 hg6 hb6 ho7 hg7 hb7 hoF0 hBq
            generalize scIns R y = O at *
            go_wp2_with fail
            refine (specScoresOk_any _ O _ (ownsR_reads scC_len hoF) (by omega)).mono ?_
            rintro e w8 ⟨rfl, hb8⟩
            have hB8 := hB7.trans (hb8.mono hb7z)
            have ho8 := ownsR_kept hoF hb8
            have hz8 := hB8.size
            clear hb8 hoF hB7
            cases hok2 : scOkB O with
            | true =>
              have HR : Hid (scPutR l y = O) := by show _ = _; unfold scPutR; rw [HOK.out, HPL.out, hok2]; rfl
              have HB : Hid (scPutB l y = true) := by show _ = _; unfold scPutB; rw [HOK.out, HPL.out, hok2]; rfl
              have HF : Hid (scPutF l y = ((R.length : Int) == (l.length : Int))) := by show _ = _; rw [HFL.out, HB.out]; rfl
              clear hok2
              go_wp2_with fail
              go_ret3
              exact ⟨_, by rw [HF.out, HB.out]; rfl, by rw [HR.out]; exact ho8, hB8⟩
            | false =>
              have HR : Hid (scPutR l y = l) := by show _ = _; unfold scPutR; rw [HOK.out, HPL.out, hok2]; rfl
              have HB : Hid (scPutB l y = false) := by show _ = _; unfold scPutB; rw [HOK.out, HPL.out, hok2]; rfl
              have HF : Hid (scPutF l y = false) := by show _ = _; rw [HFL.out, HB.out]; rfl
              have ho9 : (w8.alloc (.cells #[] 62)).ownsRow w.heap.size 62 2 (.slice (some ⟨w8.heap.size, 0, none⟩) 0 0) 0 [] := World.ownsRow_lit w8 #[] 0 hz8 (by simp) rfl
              have hB9 : Below w.heap.size w (w8.alloc (.cells #[] 62)) := hB8.alloc hz8 _
              have hr9 := readsR_kept hr hB9
              clear hok2 ho8
              go_wp2_with (at_builtin; refine append_R (c := scC) rfl (.tmp 47) (.tmp 48) 24 rfl w.heap.size 62 i0 _ 2 24 Try.underlying24 hi0 hz0 hz1 hz2 rfl (by decide) _ _ _ rfl ho9 _ rfl l hr9 scC_len scC_one (by unfold maxLen; omega) (by omega) (by simp; omega) ?_)
              intro xa wa howna hgrowa
              have hoa : ScOwns wa w.heap.size xa l := by unfold ScOwns OwnsR; simpa using howna
              have hBa : Below w.heap.size w wa := hB9.grown hgrowa (by simp; omega) (fun j hj => (ho9.lt j hj).1)
              clear howna hgrowa
              go_wp2_with fail
              go_ret3
              exact ⟨_, by rw [HF.out, HB.out]; rfl, by rw [HR.out]; exact hoa, hBa⟩
        · go_simp
          refine hK.out _ _ ?_ (fun hHeld => ?_)
          · exact HS2.out _ ((Below.refl (wq).heap.size (wq)).alloc (Nat.le_refl _) (.cells #[.string y.1, .int .i64 y.2] 62)).drew
          clear hK K
          (try simp only [Act.put]); (try simp only [List.setIfInBounds_toArray]); (try simp only [List.set_cons_succ]); (try simp only [List.set_cons_zero])
          refine wpAnyH_ready (rs := [0]) (by kernel_rfl) (by simp) ?_
          refine AllReadyH.cons rfl (fun K hK => ?_) AllReadyH.nil
          go_simp
          refine hK.out _ _ ?_ (fun hHeld => ?_)
          · exact HS2.out _ (((Below.refl (wq).heap.size (wq)).alloc (Nat.le_refl _) (.cells #[.string y.1, .int .i64 y.2] 62)).alloc (by simp) (.cells #[] 62)).drew
          clear hK K
          (try simp only [Act.put]); (try simp only [List.setIfInBounds_toArray]); (try simp only [List.set_cons_succ]); (try simp only [List.set_cons_zero])
          refine wpAnyH_ready (rs := [4]) (by kernel_rfl) (by simp) ?_
          refine AllReadyH.cons rfl (fun K hK => ?_) AllReadyH.nil
          refine step_append_R (c := scC) (d := some 36) rfl rfl (.tmp 32) (.tmp 35) 24 rfl (wq).heap.size 62 i0 _ 2 24 Try.underlying24 hi0 hz0 hz1 hz2 rfl (by decide) _ _ _ rfl (World.ownsRow.drew hlitB) _ rfl (R.take (k)) (readsR_kept HA.out (((Below.refl (wq).heap.size (wq)).alloc (Nat.le_refl _) (.cells #[.string y.1, .int .i64 y.2] 62)).alloc (by simp) (.cells #[] 62)).drew) scC_len scC_one (by unfold maxLen; simp; omega) (by simp; omega) (by simp; omega) ?_
          intro x5 w5 ho5 hg5
          have hb5 : Below (wq).heap.size (wq) w5 := Below.grown (((Below.refl (wq).heap.size (wq)).alloc (Nat.le_refl _) (.cells #[.string y.1, .int .i64 y.2] 62)).alloc (by simp) (.cells #[] 62)).drew hg5 (by simp; omega) (fun k hk => by cases hk; simp)
          refine hK.out _ _ ?_ (fun hHeld => ?_)
          · exact HS2.out _ hb5
          clear hK K
          (try simp only [Act.put]); (try simp only [List.setIfInBounds_toArray]); (try simp only [List.set_cons_succ]); (try simp only [List.set_cons_zero])
          have hz5 := hb5.size
          have hq5 : w5.heap[(wq).heap.size]? = some (.cells #[.string y.1, .int .i64 y.2] 62) := (hg5.block (wq).heap.size (by simp; omega) (show some (wq).heap.size ≠ some ((wq).heap.size + 1) by simp)).trans ((Below.heap_alloc ((wq).alloc (.cells #[.string y.1, .int .i64 y.2] 62)) (.cells #[] 62) (wq).heap.size (by simp)).trans (heap_alloc_new (wq) (.cells #[.string y.1, .int .i64 y.2] 62)))
          refine wpAnyH_ready (rs := [7]) (by kernel_rfl) (by simp) ?_
          refine AllReadyH.cons rfl (fun K hK => ?_) AllReadyH.nil
          refine step_append_R (c := scC) (d := some 39) rfl rfl (.tmp 36) (.tmp 38) 24 rfl (wq).heap.size 62 i0 _ 2 24 Try.underlying24 hi0 hz0 hz1 hz2 rfl (by decide) _ _ _ rfl ho5 _ rfl [y] (sc_one_at hq5) scC_len scC_one (by unfold maxLen; simp; omega) (by simp; omega) hz5 ?_
          intro x6 w6 ho6 hg6
          have hb6 : Below (wq).heap.size (wq) w6 := Below.grown hb5 hg6 hz5 (fun k hk => (ho5.lt k hk).1)
          refine hK.out _ _ ?_ (fun hHeld => ?_)
          · exact HS2.out _ hb6
          clear hK K
          (try simp only [Act.put]); (try simp only [List.setIfInBounds_toArray]); (try simp only [List.set_cons_succ]); (try simp only [List.set_cons_zero])
          have hz6 := hb6.size
          refine wpAnyH_ready (rs := [11]) (by kernel_rfl) (by simp) ?_
          refine AllReadyH.cons rfl (fun K hK => ?_) AllReadyH.nil
          refine step_append_R (c := scC) (d := some 43) rfl rfl (.tmp 39) (.tmp 42) 24 rfl (wq).heap.size 62 i0 _ 2 24 Try.underlying24 hi0 hz0 hz1 hz2 rfl (by decide) _ _ _ rfl ho6 _ rfl (R.drop (k)) (readsR_kept HBc.out hb6) scC_len scC_one (by unfold maxLen; simp; omega) (by simp; omega) hz6 ?_
          intro x7 w7 ho7 hg7
          have hb7 : Below (wq).heap.size (wq) w7 := Below.grown hb6 hg7 hz6 (fun k hk => (ho6.lt k hk).1)
          refine hK.out _ _ ?_ (fun hHeld => ?_)
          · exact HS2.out _ hb7
          clear hK K
          (try simp only [Act.put]); (try simp only [List.setIfInBounds_toArray]); (try simp only [List.set_cons_succ]); (try simp only [List.set_cons_zero])
          refine takeH (i := 12) (d := (some 9)) (v := ?_) rfl rfl (by kernel_rfl) (by kernel_rfl) (by kernel_rfl) (fun _ _ _ h => h) (by kernel_rfl) ?_ (by assumption) ?_
          rotate_left
          · (intro w hSw; (try dsimp only at hSw); go_simp; try with_reducible rfl)
          (try simp only [Act.put]); (try simp only [List.setIfInBounds_toArray]); (try simp only [List.set_cons_succ]); (try simp only [List.set_cons_zero])
          refine wpAnyH_done (by kernel_rfl) ?_ _
          have hB7 : Below w.heap.size w w7 := hBq.trans (hb7.mono (by omega))
          have hoF0 : ScOwns w7 (wq).heap.size x7 (scIns R y) := by
            unfold scIns; rw [HPOS.out]; unfold ScOwns OwnsR
            rw [List.length_append, List.length_cons, List.flatMap_append, List.flatMap_cons]
            have h7 := ho7
            simp only [List.length_cons, List.length_nil, List.flatMap_cons, List.flatMap_nil, List.append_nil, List.nil_append, Nat.zero_add, List.append_assoc] at h7
            rw [show (R.take (k)).length + ((R.drop (k)).length + 1) = (R.take (k)).length + 1 + (R.drop (k)).length by omega]
            exact h7
          have hoF : ScOwns w7 w.heap.size x7 (scIns R y) := ownsR_base hoF0 hwq2
          have hinl : (scIns R y).length ≤ 17 := by rw [scIns_len]; omega
          obtain ⟨ax, cx, hxv⟩ := readsR_shape (ownsR_reads scC_len hoF)
          subst hxv
          have hb7z := hB7.size
          clear hHeld HA HBc HS2 hab ho5 hg5 hb5 ho6 hg6 hb6 ho7 hg7 hb7 hoF0 hBq
          generalize scIns R y = O at *
          go_wp2_with fail
          refine (specScoresOk_any _ O _ (ownsR_reads scC_len hoF) (by omega)).mono ?_
          rintro e w8 ⟨rfl, hb8⟩
          have hB8 := hB7.trans (hb8.mono hb7z)
          have ho8 := ownsR_kept hoF hb8
          have hz8 := hB8.size
          clear hb8 hoF hB7
          cases hok2 : scOkB O with
          | true =>
            have HR : Hid (scPutR l y = O) := by show _ = _; unfold scPutR; rw [HOK.out, HPL.out, hok2]; rfl
            have HB : Hid (scPutB l y = true) := by show _ = _; unfold scPutB; rw [HOK.out, HPL.out, hok2]; rfl
            have HF : Hid (scPutF l y = ((R.length : Int) == (l.length : Int))) := by show _ = _; rw [HFL.out, HB.out]; rfl
            clear hok2
            go_wp2_with fail
            go_ret3
            exact ⟨_, by rw [HF.out, HB.out]; rfl, by rw [HR.out]; exact ho8, hB8⟩
          | false =>
            have HR : Hid (scPutR l y = l) := by show _ = _; unfold scPutR; rw [HOK.out, HPL.out, hok2]; rfl
            have HB : Hid (scPutB l y = false) := by show _ = _; unfold scPutB; rw [HOK.out, HPL.out, hok2]; rfl
            have HF : Hid (scPutF l y = false) := by show _ = _; rw [HFL.out, HB.out]; rfl
            have ho9 : (w8.alloc (.cells #[] 62)).ownsRow w.heap.size 62 2 (.slice (some ⟨w8.heap.size, 0, none⟩) 0 0) 0 [] := World.ownsRow_lit w8 #[] 0 hz8 (by simp) rfl
            have hB9 : Below w.heap.size w (w8.alloc (.cells #[] 62)) := hB8.alloc hz8 _
            have hr9 := readsR_kept hr hB9
            clear hok2 ho8
            go_wp2_with (at_builtin; refine append_R (c := scC) rfl (.tmp 47) (.tmp 48) 24 rfl w.heap.size 62 i0 _ 2 24 Try.underlying24 hi0 hz0 hz1 hz2 rfl (by decide) _ _ _ rfl ho9 _ rfl l hr9 scC_len scC_one (by unfold maxLen; omega) (by omega) (by simp; omega) ?_)
            intro xa wa howna hgrowa
            have hoa : ScOwns wa w.heap.size xa l := by unfold ScOwns OwnsR; simpa using howna
            have hBa : Below w.heap.size w wa := hB9.grown hgrowa (by simp; omega) (fun j hj => (ho9.lt j hj).1)
            clear howna hgrowa
            go_wp2_with fail
            go_ret3
            exact ⟨_, by rw [HF.out, HB.out]; rfl, by rw [HR.out]; exact hoa, hBa⟩
end Go.Proofs.Ytdaahcenplepjaa
