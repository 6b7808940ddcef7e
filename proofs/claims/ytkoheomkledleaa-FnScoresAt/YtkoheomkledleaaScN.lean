/- ScoresBy: the program's and the model's. -/
import Derived.Test.YtkoheomkledleaaScF
import Derived.Test.YtkoheomkledleaaScG
import Derived.Maps.AppendAt
import Derived.Laws.AppendOwnNone
namespace Go.Proofs.Ytkoheomkledleaa
open Go.RowKit

theorem news_new (w : World) (cs : Array Value) (t : TypeId) : ∀ j u, cs.toList[j]? = some u → (w.alloc (.cells cs t)).cell? ((⟨w.heap.size, 0, none⟩ : Addr).add j) = some u := by
  intro j u hu
  rw [Addr.add_mid, Nat.zero_add, cell_of_row _ _ _ _ _ _ (heap_alloc_new w _)]
  simpa using hu
def scIn (lo hi : Int) (x : ByteArray × Int) : Bool := decide (lo ≤ x.2) && decide (x.2 ≤ hi)
def scBy (l : List (ByteArray × Int)) (lo hi : Int) : List (ByteArray × Int) := l.filter (scIn lo hi)
def scByR (l : List (ByteArray × Int)) (lo hi : Int) : List (ByteArray × Int) := if scOkB l = true then scBy l lo hi else []
theorem scBy_hit {l : List (ByteArray × Int)} {lo hi : Int} {k : Nat} (hk : k < l.length) (h : scIn lo hi (scAt l k) = true) : scBy (l.take (k + 1)) lo hi = scBy (l.take k) lo hi ++ [scAt l k] := by
  rw [List.take_succ_eq_append_getElem hk, ← scAt_get hk]; unfold scBy; simp [h]
theorem scBy_miss {l : List (ByteArray × Int)} {lo hi : Int} {k : Nat} (hk : k < l.length) (h : scIn lo hi (scAt l k) = false) : scBy (l.take (k + 1)) lo hi = scBy (l.take k) lo hi := by
  rw [List.take_succ_eq_append_getElem hk, ← scAt_get hk]; unfold scBy; simp [h]
theorem scBy_len (l : List (ByteArray × Int)) (lo hi : Int) : (scBy l lo hi).length ≤ l.length := List.length_filter_le _ _

set_option maxHeartbeats 8000000 in
theorem specScoresBy_any (v : Value) (l : List (ByteArray × Int)) (lo hi : Int) (w : World) (hr : ScReads w v l) (hlen : l.length ≤ 1048576) :
    Calls Try.prog 25 #[v, .int .i64 lo, .int .i64 hi] w fun e w' => ∃ x, e = .returned x ∧ ScOwns w' w.heap.size x (scByR l lo hi) ∧ Below w.heap.size w w' := by
  obtain ⟨i0, hi0, hz0, hz1, hz2⟩ := info_parts scInfo
  obtain ⟨ao, cap, rfl⟩ := readsR_shape hr
  have ho0 : ScOwns (w.alloc (.cells #[] 25)) w.heap.size (.slice (some ⟨w.heap.size, 0, none⟩) 0 0) [] := World.ownsRow_lit w #[] 0 (Nat.le_refl _) (by simp) rfl
  have hB0 : Below w.heap.size w (w.alloc (.cells #[] 25)) := (Below.refl _ _).alloc (Nat.le_refl _) _
  go_enter Try.func25, Try.ntmps25
  go_wp2_with fail
  go_loopw [7, 8] (fun x i wr => ∃ k : Nat, k ≤ l.length ∧ i = .int .i64 (k : Int) ∧ ScOwns wr w.heap.size x (scBy (l.take k) lo hi) ∧ (0 < k → scOkB l = true) ∧ Below w.heap.size w wr) (fun _ i _ => l.length - (intOf i).toNat)
  case atStart => exact ⟨0, Nat.zero_le _, rfl, ho0, fun h => by omega, hB0⟩
  case round =>
    obtain ⟨k, hk, rfl, ho, hkk, hB⟩ := hrel
    clear ho0 hB0
    have HKK : Hid (0 < k → scOkB l = true) := hkk
    clear hkk
    by_cases hlt : k < l.length
    · have hk1 : (k : Int) < (l.length : Int) := by omega
      go_wp2_with fail
      refine (specScoresOk_any _ l _ (readsR_kept hr hB) hlen).mono ?_
      rintro e w1 ⟨rfl, hb1⟩
      have hB1 := hB.trans (hb1.mono hB.size)
      have ho1 := ownsR_kept ho hb1
      clear hb1 hB ho
      cases hok : scOkB l with
      | false =>
        have hk0 : k = 0 := by
          rcases Nat.eq_zero_or_pos k with h | h
          · exact h
          · rw [HKK.out h] at hok; cases hok
        subst hk0
        have HF : Hid (scByR l lo hi = []) := by show _ = _; unfold scByR; rw [hok]; rfl
        clear hok
        go_wp2_with fail
        go_ret
        exact ⟨_, rfl, by rw [HF.out]; exact ho1, hB1⟩
      | true =>
        have HK : Hid (scOkB l = true) := hok
        clear hok
        obtain ⟨b, off, rfl, hb, _, _, hc⟩ := sc_some hr (by omega)
        have hcl := sc_cell_kept (sc_cells hc hlt) hB1 hb
        have hc0 := hcl.1
        have hc1 := hcl.2
        have hsz := hB1.size
        have hob := scBy_len (l.take k) lo hi
        have htk : (l.take k).length = k := by simp; omega
        clear hcl hc
        go_wp2_with fail
        refine (l1In_any (scAt l k).2 lo hi _).mono ?_
        rintro e w3 ⟨rfl, rfl⟩
        cases hI : (decide (lo ≤ (scAt l k).2) && decide ((scAt l k).2 ≤ hi)) with
        | true =>
          have HS : Hid (scBy (l.take (k + 1)) lo hi = scBy (l.take k) lo hi ++ [scAt l k]) := scBy_hit hlt hI
          clear hI
          generalize scBy (l.take k) lo hi = O at *
          have hol := ho1
          unfold ScOwns OwnsR at hol
          have hB3a := hB1.alloc hsz (.cells #[.string (scAt l k).1, .int .i64 (scAt l k).2] 25)
          go_wp2_with (at_builtin; refine wpList_append_own _ rfl (.tmp 28) (.tmp 33) 23 rfl w.heap.size 25 i0 _ 2 24 Try.underlying23 hi0 hz0 hz1 hz2 rfl (by decide) _ _ _ rfl (hol.alloc _) ⟨w1.heap.size, 0, none⟩ 1 1 (scC (scAt l k)) rfl rfl (news_new _ _ _) (scC_one _) (by unfold maxLen; omega) (by omega) (by simp; omega) ?_)
          intro x5 w5 hown5 hgrow5 _
          have ho5 : ScOwns w5 w.heap.size x5 (O ++ [scAt l k]) := by unfold ScOwns OwnsR; rw [List.length_append, List.flatMap_append]; simpa using hown5
          have hB5 : Below w.heap.size w w5 := hB3a.grown hgrow5 (by simp; omega) (fun j hj => (hol.lt j hj).1)
          clear hown5 hgrow5 hol hB3a ho1
          go_wp2_with fail
          go_roundw
          case rel => exact ⟨k + 1, hlt, by go_num, by rw [HS.out]; exact ho5, fun _ => HK.out, hB5⟩
          case measure => simp [intOf]; omega
        | false =>
          have HS : Hid (scBy (l.take (k + 1)) lo hi = scBy (l.take k) lo hi) := scBy_miss hlt hI
          clear hI
          go_wp2_with fail
          go_roundw
          case rel => exact ⟨k + 1, hlt, by go_num, by rw [HS.out]; exact ho1, fun _ => HK.out, hB1⟩
          case measure => simp [intOf]; omega
    · obtain rfl : k = l.length := by omega
      have HF : Hid (scByR l lo hi = scBy l lo hi) := by
        show _ = _; unfold scByR; split
        · rfl
        · next h =>
          rcases Nat.eq_zero_or_pos l.length with h0 | h0
          · rw [List.length_eq_zero_iff.1 h0]; rfl
          · exact absurd (HKK.out h0) h
      rw [List.take_length] at ho
      clear HKK
      go_wp2_with fail
      go_ret
      exact ⟨_, rfl, by rw [HF.out]; exact ho, hB⟩

set_option maxHeartbeats 8000000 in
theorem implScoresBy_any (v : Value) (l : List (ByteArray × Int)) (lo hi : Int) (w : World) (hr : ScReads w v l) (hlen : l.length ≤ 1048576) :
    Calls Try.prog 24 #[v, .int .i64 lo, .int .i64 hi] w fun e w' => ∃ x, e = .returned x ∧ ScOwns w' w.heap.size x (scByR l lo hi) ∧ Below w.heap.size w w' := by
  obtain ⟨i0, hi0, hz0, hz1, hz2⟩ := info_parts scInfo
  obtain ⟨ao, cap, rfl⟩ := readsR_shape hr
  go_enter Try.func24, Try.ntmps24
  go_wp2_with fail
  refine (implScoresOk_any _ l _ hr hlen).mono ?_
  rintro e w1 ⟨rfl, hb1⟩
  have hB1 : Below w.heap.size w w1 := hb1
  clear hb1
  cases hok : scOkB l with
  | false =>
    have HF : Hid (scByR l lo hi = []) := by show _ = _; unfold scByR; rw [hok]; rfl
    clear hok
    go_wp2_with fail
    go_ret
    exact ⟨_, rfl, by rw [HF.out]; exact World.ownsRow_nil _ _ _ _, hB1⟩
  | true =>
    have HF : Hid (scByR l lo hi = scBy l lo hi) := by show _ = _; unfold scByR; rw [hok]; rfl
    clear hok
    go_wp2_with fail
    go_loopw [7, 15] (fun x i wr => ∃ k : Nat, k ≤ l.length ∧ i = .int .i64 (k : Int) ∧ ScOwns wr w.heap.size x (scBy (l.take k) lo hi) ∧ Below w.heap.size w wr) (fun _ i _ => l.length - (intOf i).toNat)
    case atStart => exact ⟨0, Nat.zero_le _, rfl, World.ownsRow_nil _ _ _ _, hB1⟩
    case round =>
      obtain ⟨k, hk, rfl, ho, hB⟩ := hrel
      clear hB1
      by_cases hlt : k < l.length
      · have hk1 : (k : Int) < (l.length : Int) := by omega
        obtain ⟨b, off, rfl, hb, _, _, hc⟩ := sc_some hr (by omega)
        have hcl := sc_cell_kept (sc_cells hc hlt) hB hb
        have hc0 := hcl.1
        have hc1 := hcl.2
        have hsz := hB.size
        have hob := scBy_len (l.take k) lo hi
        have htk : (l.take k).length = k := by simp; omega
        have hBa := hB.alloc hsz (.cells #[.string (scAt l k).1, .int .i64 (scAt l k).2] 25)
        have hoa := World.ownsRow.alloc ho (.cells #[.string (scAt l k).1, .int .i64 (scAt l k).2] 25)
        clear hcl hc
        cases hI : scIn lo hi (scAt l k) with
        | true =>
          have HS : Hid (scBy (l.take (k + 1)) lo hi = scBy (l.take k) lo hi ++ [scAt l k]) := scBy_hit hlt hI
          have hI' := hI
          unfold scIn at hI'
          rw [Bool.and_eq_true] at hI'
          have hI1 := hI'.1
          have hI2 := hI'.2
          clear hI hI'
          generalize scBy (l.take k) lo hi = O at *
          have hBb := hBa.alloc (by simp; omega) (.cells #[.string (scAt l k).1, .int .i64 (scAt l k).2] 25)
          go_wp2_with (at_builtin; refine wpList_append_own _ rfl (.tmp 29) (.tmp 31) 23 rfl w.heap.size 25 i0 _ 2 24 Try.underlying23 hi0 hz0 hz1 hz2 rfl (by decide) _ _ _ rfl (hoa.alloc _) ⟨wr.heap.size + 1, 0, none⟩ 1 1 (scC (scAt l k)) rfl rfl (by have := news_new (wr.alloc (.cells #[.string (scAt l k).1, .int .i64 (scAt l k).2] 25)) #[.string (scAt l k).1, .int .i64 (scAt l k).2] 25; rw [World.size_alloc] at this; exact this) (scC_one _) (by unfold maxLen; omega) (by omega) (by simp; omega) ?_)
          intro x5 w5 hown5 hgrow5 _
          have ho5 : ScOwns w5 w.heap.size x5 (O ++ [scAt l k]) := by unfold ScOwns OwnsR; rw [List.length_append, List.flatMap_append]; simpa using hown5
          have hB5 : Below w.heap.size w w5 := hBb.grown hgrow5 (by simp; omega) (fun j hj => (hoa.lt j hj).1)
          clear hown5 hgrow5 hoa hBa hBb ho hI1 hI2
          go_wp2_with fail
          go_roundw
          case rel => exact ⟨k + 1, hlt, by go_num, by rw [HS.out]; exact ho5, hB5⟩
          case measure => simp [intOf]; omega
        | false =>
          have HS : Hid (scBy (l.take (k + 1)) lo hi = scBy (l.take k) lo hi) := scBy_miss hlt hI
          unfold scIn at hI
          rw [Bool.and_eq_false_iff] at hI
          rcases Int.lt_or_le (scAt l k).2 lo with hL | hL
          · have hI1 : decide (lo ≤ (scAt l k).2) = false := by simpa using hL
            clear hI hL
            go_wp2_with fail
            go_roundw
            case rel => exact ⟨k + 1, hlt, by go_num, by rw [HS.out]; exact hoa, hBa⟩
            case measure => simp [intOf]; omega
          · have hI1 : decide (lo ≤ (scAt l k).2) = true := by simpa using hL
            have hI2 : decide ((scAt l k).2 ≤ hi) = false := by
              rcases hI with h | h
              · rw [hI1] at h; cases h
              · exact h
            clear hI hL
            go_wp2_with fail
            go_roundw
            case rel => exact ⟨k + 1, hlt, by go_num, by rw [HS.out]; exact hoa, hBa⟩
            case measure => simp [intOf]; omega
      · obtain rfl : k = l.length := by omega
        rw [List.take_length] at ho
        go_wp2_with fail
        go_ret
        exact ⟨_, rfl, by rw [HF.out]; exact ho, hB⟩
end Go.Proofs.Ytkoheomkledleaa
