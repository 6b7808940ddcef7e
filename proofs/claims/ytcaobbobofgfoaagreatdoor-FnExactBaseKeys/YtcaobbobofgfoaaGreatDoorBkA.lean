/- The program's BaseKeys. -/
import Derived.Test.YtcaobbobofgfoaaGreatDoorMatchI
import Derived.Test.YtcaobbobofgfoaaGreatDoorEnN
import Derived.Test.YtcaobbobofgfoaaGreatDoorOwn
import Derived.Maps.AppendAt
import Derived.Laws.AppendOwn
namespace Go.Proofs.YtcaobbobofgfoaaGreatDoor
open Go.RowKit
set_option linter.unusedVariables false

/-- keys of rows that are as a pattern -/
def kk (p : ByteArray) (l : List Ent) : List ByteArray := (l.filter (fun e => mtch p.data.toList e.key.data.toList)).map Ent.key
def goodK (n : Int) (l : List Ent) (p : ByteArray) : Bool := bsOkB n l && decide ((p.size : Int) ≤ 12)
def keysE (n : Int) (l : List Ent) (p : ByteArray) : List ByteArray := if goodK n l p = true then kk p l else []
theorem kk_hit {p : ByteArray} {l : List Ent} {e : Ent} (h : mtch p.data.toList e.key.data.toList = true) : kk p (l ++ [e]) = kk p l ++ [e.key] := by unfold kk; simp [h]
theorem kk_miss {p : ByteArray} {l : List Ent} {e : Ent} (h : mtch p.data.toList e.key.data.toList = false) : kk p (l ++ [e]) = kk p l := by unfold kk; simp [h]
theorem kk_len (p : ByteArray) (l : List Ent) : (kk p l).length ≤ l.length := by unfold kk; rw [List.length_map]; exact List.length_filter_le _ _
theorem take_snocE {l : List Row} {j : Nat} (h : j < l.length) : (l.take (j + 1)).map Row.e = (l.take j).map Row.e ++ [(esAt l j).e] := by
  rw [List.take_succ_eq_append_getElem h, List.map_append, esAt_get h]; rfl
theorem below_drewN (w : World) (m : Nat) : Below w.heap.size w (w.drewN m) := ⟨rfl, rfl, rfl, Nat.le_refl _, fun _ _ => rfl⟩
set_option maxHeartbeats 8000000 in
set_option maxRecDepth 100000 in
theorem implKeys_any (n : Int) (v : Value) (l : List Row) (p : ByteArray) (w : World) (hr : EsReads w v l) (hs : EsSmall l) (hp : p.size ≤ 9223372036854775806) :
    Calls Tryz.prog 7 #[bsV n v, .string p] w fun e w' => ∃ u, e = .returned u ∧ Owns w' w.heap.size u (keysE n (l.map Row.e) p) ∧ Below w.heap.size w w' := by
  obtain ⟨ao, cap, rfl⟩ := readsR_shape hr.rows
  obtain ⟨i0, hi, iz0, iz1, iz2⟩ := info_parts infoS
  have hlen := hs.len
  go_enter Tryz.func7, Tryz.ntmps7
  go_wp2_with fail
  have hB0 : Below w.heap.size w (w.alloc (.cells #[.int .i64 n, .slice ao l.length cap] 30)) := (Below.refl _ w).alloc (Nat.le_refl _) _
  have q0 : Hid _ := heap_alloc_new w (.cells #[.int .i64 n, .slice ao l.length cap] 30)
  refine (implBaseOk_any n _ l _ (esReads_kept hr hB0) hs).mono ?_
  rintro x w1 ⟨rfl, hb1⟩
  have hB1 := hB0.trans (hb1.mono hB0.size)
  have q1 := (hb1.block w.heap.size (by simp)).trans q0.out
  have b1 : w1.cell? ⟨w.heap.size, 1, none⟩ = some (.slice ao l.length cap) := by rw [cell_of_row _ _ _ _ _ _ q1]; rfl
  clear hb1 hB0 q0 q1
  cases hok : bsOkB n (l.map Row.e) with
  | false =>
    have HK : Hid (keysE n (l.map Row.e) p = []) := by show _ = _; unfold keysE goodK; rw [hok]; rfl
    clear hok b1
    go_wp2_with fail
    go_ret
    exact ⟨_, rfl, by rw [HK.out]; exact World.ownsRow_nil _ _ _ _, hB1⟩
  | true =>
    by_cases h12 : (p.size : Int) ≤ 12
    · have HK : Hid (keysE n (l.map Row.e) p = kk p (l.map Row.e)) := by show _ = _; unfold keysE goodK; rw [hok, decide_eq_true h12]; rfl
      clear hok
      go_wp2_with fail
      clear b1
      go_loopw [5, 19] (fun u i wr => ∃ j : Nat, j ≤ l.length ∧ i = .int .i64 (j : Int) ∧ Hid (Owns wr w.heap.size u (kk p ((l.take j).map Row.e))) ∧ Below w.heap.size w wr) (fun _ i _ => l.length - (intOf i).toNat)
      case atStart => exact ⟨0, Nat.zero_le _, rfl, World.ownsRow_nil _ _ _ _, hB1⟩
      case round =>
        obtain ⟨j, hj, rfl, HO, hB⟩ := hrel
        clear hB1
        by_cases hlt : j < l.length
        · obtain ⟨b, off, rfl, hb, hnc, hcm, hc⟩ := es_some hr.rows (by omega)
          obtain ⟨c0, c1, c2, c3, c4, c5, c6⟩ := es_cells hc hB hb hlt
          have hk1 : (j : Int) < (l.length : Int) := by omega
          have hky := (hs.each _ (esAt_mem hlt)).key
          have HTS : Hid _ := take_snocE hlt
          clear hc hnc hcm hr
          go_wp2_with fail
          refine (implM_any p (esAt l j).e.key _ hp (by omega)).mono ?_
          rintro e w2 ⟨rfl, m, rfl⟩
          obtain ⟨w3, hw3⟩ : ∃ W, (wr.alloc (.cells (rowC (esAt l j)).toArray 43)).drewN m = W := ⟨_, rfl⟩
          have hb3 : Below wr.heap.size wr w3 := by rw [← hw3]; exact ((Below.refl _ wr).alloc (Nat.le_refl _) _).trans ((below_drewN _ _).mono (by simp))
          have k3 : w3.heap[wr.heap.size]? = some (.cells (rowC (esAt l j)).toArray 43 (0, 0)) := by rw [← hw3]; exact heap_alloc_new wr _
          have k0 : w3.cell? ⟨wr.heap.size, 0, none⟩ = some (.string (esAt l j).e.key) := by rw [cell_of_row _ _ _ _ _ _ k3]; rfl
          rw [show (wr.alloc (.cells #[.string (esAt l j).e.key, .int .i64 (esAt l j).e.til, .int .i64 (esAt l j).e.kind, .string (esAt l j).e.text, .slice (esAt l j).al (esAt l j).e.list.length (esAt l j).cl, .slice (esAt l j).as_ (esAt l j).e.scores.length (esAt l j).cs, .slice (esAt l j).af (esAt l j).e.fields.length (esAt l j).cf] 43)).drewN m = w3 from hw3]
          have HB3 : Hid _ := hB.trans (hb3.mono hB.size)
          have HO3 : Hid _ := owns_kept HO.out hb3
          clear hw3 k3 hb3 HO hB c0 c1 c2 c3 c4 c5 c6
          generalize hA : mtch p.data.toList (esAt l j).e.key.data.toList = R
          cases R with
          | true =>
            have HH : Hid _ := kk_hit (l := (l.take j).map Row.e) hA
            clear hA
            have hn := kk_len p ((l.take j).map Row.e)
            rw [List.length_map, List.length_take] at hn
            go_wp2_with (at_builtin; refine wpList_append_own _ rfl (.tmp 27) (.tmp 30) 26 rfl w.heap.size 9 i0 (.string ByteArray.empty) 1 16 Tryz.underlying26 hi iz0 iz1 iz2 rfl (by decide) _ _ _ rfl (World.ownsRow.alloc HO3.out _) ⟨w3.heap.size, 0, none⟩ 1 1 [.string (esAt l j).e.key] rfl rfl (cell_one_new _ _ _) (by simp [Value.oneCell']) (by unfold maxLen; omega) (by omega) (by simp; have := HB3.out.size; omega) ?_; intro v' w4 hown hgrow _)
            have hO4 : Owns w4 w.heap.size v' (kk p ((l.take j).map Row.e) ++ [(esAt l j).e.key]) := by
              unfold Owns
              rw [List.length_append, List.map_append]
              exact hown
            have hB4 : Below w.heap.size w w4 := (HB3.out.alloc HB3.out.size _).grown hgrow (by simp; have := HB3.out.size; omega) (fun k hk => (World.ownsRow.lt HO3.out k hk).1)
            go_roundw
            case rel => exact ⟨j + 1, hlt, by go_num, by rw [HTS.out, HH.out]; exact hO4, hB4⟩
            case measure => simp [intOf]; omega
          | false =>
            have HH : Hid _ := kk_miss (l := (l.take j).map Row.e) hA
            clear hA
            go_wp2_with fail
            go_roundw
            case rel => exact ⟨j + 1, hlt, by go_num, by rw [HTS.out, HH.out]; exact HO3.out, HB3.out⟩
            case measure => simp [intOf]; omega
        · obtain rfl : j = l.length := by omega
          go_wp2_with fail
          go_ret
          exact ⟨_, rfl, by rw [HK.out]; have := HO.out; rw [List.take_length] at this; exact this, hB⟩
    · have HK : Hid (keysE n (l.map Row.e) p = []) := by show _ = _; unfold keysE goodK; rw [decide_eq_false h12, Bool.and_false]; rfl
      clear hok b1
      go_wp2_with fail
      go_ret
      exact ⟨_, rfl, by rw [HK.out]; exact World.ownsRow_nil _ _ _ _, hB1⟩
end Go.Proofs.YtcaobbobofgfoaaGreatDoor
