/- Draws of texts and of sets, over the reader of Rx. -/
import Derived.Test.YtdaahcenplepjaaDrX
import Derived.Test.YtdaahcenplepjaaSetW
namespace Go.Proofs.Ytdaahcenplepjaa
open Go.RowKit

theorem putM_len (s : ByteArray) : ∀ (l : List ByteArray), (putM l s).length ≤ l.length + 1
  | [] => by simp [putM]
  | x :: l => by
    unfold putM; split
    · have := putM_len s l; simp only [List.length_cons]; omega
    · split <;> simp
set_option maxHeartbeats 4000000 in
theorem texts_draw (r p : Nat) (v : Value) (zs : List Int) (most : Nat) (w : World) (h : RdAt w r v zs p) (hp : p ≤ 90000) (hm : most ≤ 100) :
    Calls Try.prog 28 #[.pointer (some ⟨r, 0, none⟩), .int .i64 (most : Int)] w fun e w' => ∃ u l q, e = .returned u ∧ Owns w' w.heap.size u l ∧ l.length ≤ most ∧ (∀ s ∈ l, s.size ≤ 41) ∧ RdAt w' r v zs q ∧ q ≤ p + 1 + most ∧ w.grownBy w' (some r) := by
  obtain ⟨i0, hi, hz0, hz1, hz2⟩ := info_parts infoS
  have hrl := rd_lt h
  have hB0 := (Below.refl w.heap.size w).alloc (Nat.le_refl _) (.cells #[] 9)
  have ho0 : Owns (w.alloc (.cells #[] 9)) w.heap.size (.slice (some ⟨w.heap.size, 0, none⟩) 0 0) [] := World.ownsRow_lit w #[] 0 (Nat.le_refl _) (by simp) rfl
  go_enter Try.func28, Try.ntmps28
  go_wp2_with fail
  refine (pick_any r p v zs _ _ (rd_grown h hB0) (by omega) (by omega) (by omega)).mono ?_
  rintro e w1 ⟨x, rfl, hx0, hx1, hR1, hg1⟩
  obtain ⟨n, rfl⟩ := Int.eq_ofNat_of_zero_le hx0
  have ho1 : Owns w1 w.heap.size (.slice (some ⟨w.heap.size, 0, none⟩) 0 0) [] := World.ownsRow.kept ho0 hg1 (.inr (by simp [Value.ownBlock]; omega))
  have hG1 := grown_trans2 (World.grownBy_alloc w (.cells #[] 9) (some r)) hg1
  clear ho0 hB0 hg1 h
  go_wp2_with fail
  go_loopw [5, 6] (fun u i wr => ∃ (k : Nat) (l : List ByteArray) (q : Nat), i = .int .i64 (k : Int) ∧ Owns wr w.heap.size u l ∧ l.length + k ≤ most ∧ (∀ s ∈ l, s.size ≤ 41) ∧ RdAt wr r v zs q ∧ q ≤ p + 1 + l.length ∧ w.grownBy wr (some r)) (fun _ i _ => (intOf i).toNat)
  case atStart => exact ⟨n, [], p + 1, rfl, ho1, by simp; omega, by simp, hR1, by simp, hG1⟩
  case round =>
    obtain ⟨k, l, q, rfl, ho, hlk, hsh, hR, hq, hG⟩ := hrel
    clear ho1 hR1 hG1
    have HSH : Hid (∀ s ∈ l, s.size ≤ 41) := hsh
    clear hsh
    by_cases h0 : 0 < k
    · obtain ⟨j, rfl⟩ : ∃ j, k = j + 1 := ⟨k - 1, by omega⟩
      go_wp2_with fail
      refine (text_any r q v zs _ hR (by omega)).mono ?_
      rintro e w2 ⟨s, rfl, hs, _, hR2, hg2⟩
      have ho2 : Owns w2 w.heap.size _ l := World.ownsRow.kept ho hg2 (own_ne_right ho hrl)
      have hG2 := grown_trans2 hG hg2
      have hG2s := hG2.size
      clear ho hR hg2
      unfold Owns at ho2
      go_wp2_with (at_builtin; refine wpList_append_own _ rfl (.tmp 16) (.tmp 19) 23 rfl w.heap.size 9 i0 (.string ByteArray.empty) 1 16 Try.underlying23 hi hz0 hz1 hz2 rfl (by decide) _ _ _ rfl (ho2.alloc _) ⟨w2.heap.size, 0, none⟩ 1 1 [.string s] rfl rfl (cell_one_new _ _ _) (strs_one [s]) (by unfold maxLen; omega) (by omega) (by simp; omega) ?_)
      intro x2 w3 hown3 hgrow3 _
      have ho3 : Owns w3 w.heap.size x2 (l ++ [s]) := by unfold Owns; rw [List.length_append, List.map_append]; exact hown3
      have hB3 : Below w.heap.size w2 w3 := ((Below.refl _ w2).alloc hG2s _).grown hgrow3 (by simp; omega) (fun i hi => (ho2.lt i hi).1)
      have hR3 := rd_kept hR2 hB3 hrl
      have hG3 := grown_base hG2 hB3
      clear hown3 hgrow3 ho2 hB3 hR2 hG2
      go_wp2_with fail
      go_roundw
      case rel => exact ⟨j, l ++ [s], q + 1, by go_num, ho3, by simp; omega, by
        intro t ht; rw [List.mem_append] at ht; rcases ht with ht | ht
        · exact HSH.out t ht
        · rw [List.mem_singleton] at ht; subst ht; exact hs, hR3, by simp; omega, hG3⟩
      case measure => simp [intOf]
    · obtain rfl : k = 0 := by omega
      go_wp2_with fail
      go_ret
      exact ⟨_, l, q, rfl, ho, by omega, HSH.out, hR, by omega, hG⟩

theorem grown_trans3 {w a b : World} {r : Nat} (h : w.grownBy a (some r)) (k : a.grownBy b (some r)) : w.grownBy b (some r) :=
  ⟨k.os.trans h.os, k.tape.trans h.tape, k.output.trans h.output, Nat.le_trans h.size k.size, fun i hi hr => (k.block i (Nat.lt_of_lt_of_le hi h.size) hr).trans (h.block i hi hr)⟩
def lenOf : Value → Nat | .slice _ n _ => n | _ => 0

set_option maxHeartbeats 8000000 in
theorem anyTexts_draw (r p : Nat) (v : Value) (zs : List Int) (w : World) (h : RdAt w r v zs p) (hp : p ≤ 80000) :
    Calls Try.prog 22 #[.pointer (some ⟨r, 0, none⟩)] w fun e w' => ∃ u l q, e = .returned u ∧ Owns w' w.heap.size u l ∧ l.length ≤ 20 ∧ (∀ s ∈ l, s.size ≤ 41) ∧ RdAt w' r v zs q ∧ q ≤ p + 100 ∧ w.grownBy w' (some r) := by
  obtain ⟨i0, hi, hz0, hz1, hz2⟩ := info_parts infoS
  have hrl := rd_lt h
  go_enter Try.func22, Try.ntmps22
  go_wp2_with fail
  refine (texts_draw r p v zs 6 _ h (by omega) (by omega)).mono ?_
  rintro e w1 ⟨u1, l1, q1, rfl, ho1, hl1, hs1, hR1, hq1, hG1⟩
  have HS1 : Hid (∀ s ∈ l1, s.size ≤ 41) := hs1
  clear h hs1
  go_wp2_with fail
  refine (pick_any r q1 v zs _ _ hR1 (by omega) (by omega) (by omega)).mono ?_
  rintro e w2 ⟨x, rfl, hx0, hx1, hR2, hg2⟩
  have ho2 : Owns w2 w.heap.size u1 l1 := World.ownsRow.kept ho1 hg2 (own_ne_right ho1 hrl)
  have hG2 := grown_trans3 hG1 hg2
  have hG2s := hG2.size
  clear ho1 hR1 hG1 hg2
  have app : ∀ (W : World) (u : Value) (l : List ByteArray) (s : ByteArray) (x2 : Value) (w3 : World), W.ownsRow w.heap.size 9 1 u l.length (l.map Value.string) → w.heap.size ≤ W.heap.size → w.grownBy W (some r) → (W.alloc (.cells #[.string s] 9)).grownBy w3 u.ownBlock → w3.ownsRow w.heap.size 9 1 x2 (l.length + 1) (l.map Value.string ++ [.string s]) → Owns w3 w.heap.size x2 (l ++ [s]) ∧ Below w.heap.size W w3 ∧ w.grownBy w3 (some r) := by
    intro W u l s x2 w3 ho hs hG hgr hown
    have hB3 : Below w.heap.size W w3 := ((Below.refl _ W).alloc hs _).grown hgr (by simp; omega) (fun i hi => (ho.lt i hi).1)
    exact ⟨by unfold Owns; rw [List.length_append, List.map_append]; exact hown, hB3, grown_base hG hB3⟩
  have HAPP : Hid (∀ (W : World) (u : Value) (l : List ByteArray) (s : ByteArray) (x2 : Value) (w3 : World), W.ownsRow w.heap.size 9 1 u l.length (l.map Value.string) → w.heap.size ≤ W.heap.size → w.grownBy W (some r) → (W.alloc (.cells #[.string s] 9)).grownBy w3 u.ownBlock → w3.ownsRow w.heap.size 9 1 x2 (l.length + 1) (l.map Value.string ++ [.string s]) → Owns w3 w.heap.size x2 (l ++ [s]) ∧ Below w.heap.size W w3 ∧ w.grownBy w3 (some r)) := app
  clear app
  rcases (show x = 0 ∨ x = 1 ∨ (x ≠ 0 ∧ x ≠ 1) by omega) with rfl | rfl | ⟨hx2, hx3⟩
  · -- a text that is too long
    go_wp2_with fail
    refine (many_any ⟨#[121]⟩ 41 _ (by decide) (by decide) (by decide)).mono ?_
    rintro e w' ⟨t, rfl, ht, _, rfl⟩
    have ht' : t.size = 41 := ht
    have HT : Hid (t.size = 41) := ht'
    clear ht ht'
    unfold Owns at ho2
    go_wp2_with (at_builtin; refine wpList_append_own _ rfl (.tmp 10) (.tmp 12) 23 rfl w.heap.size 9 i0 (.string ByteArray.empty) 1 16 Try.underlying23 hi hz0 hz1 hz2 rfl (by decide) _ _ _ rfl (ho2.alloc _) ⟨w2.heap.size, 0, none⟩ 1 1 [.string t] rfl rfl (cell_one_new _ _ _) (strs_one [t]) (by unfold maxLen; omega) (by omega) (by simp; omega) ?_)
    intro x2 w3 hown3 hgrow3 _
    obtain ⟨ho3, hB3, hG3⟩ := HAPP.out w2 u1 l1 t x2 w3 ho2 hG2s hG2 hgrow3 hown3
    have hR3 := rd_kept hR2 hB3 hrl
    clear hown3 hgrow3 ho2 hB3 hR2 hG2
    go_wp2_with fail
    go_ret
    exact ⟨_, l1 ++ [t], q1 + 1, rfl, ho3, by simp; omega, by
      intro s hs; rw [List.mem_append] at hs; rcases hs with hs | hs
      · exact HS1.out s hs
      · rw [List.mem_singleton] at hs; subst hs; rw [HT.out]; omega, hR3, by omega, hG3⟩
  · -- as many as may be, or one more
    go_wp2_with fail
    go_loopw [3] (fun u wr => ∃ (l : List ByteArray) (q : Nat), Owns wr w.heap.size u l ∧ l.length ≤ 17 ∧ (∀ s ∈ l, s.size ≤ 41) ∧ RdAt wr r v zs q ∧ q ≤ q1 + 1 + l.length ∧ w.grownBy wr (some r)) (fun u _ => 20 - lenOf u)
    case atStart => exact ⟨l1, q1 + 1, ho2, by omega, HS1.out, hR2, by omega, hG2⟩
    case round =>
      obtain ⟨l, q, ho, hl, hsh, hR, hq, hG⟩ := hrel
      have HSH : Hid (∀ s ∈ l, s.size ≤ 41) := hsh
      clear hsh ho2 hR2 hG2 hG2s
      obtain ⟨ao, cap, hu⟩ := reads_shape (owns_reads ho)
      subst hu
      go_wp2_with fail
      refine (pick_any r q v zs _ _ hR (by omega) (by omega) (by omega)).mono ?_
      rintro e w3 ⟨y, rfl, hy0, hy1, hR3, hg3⟩
      have ho3 : Owns w3 w.heap.size (.slice ao l.length cap) l := World.ownsRow.kept ho hg3 (own_ne_right ho hrl)
      have hG3 := grown_trans3 hG hg3
      clear ho hR hG hg3
      by_cases hlt : (l.length : Int) < 16 + y
      · go_wp2_with fail
        refine (l1Dec_any 1 l.length _ (by omega) (by omega)).mono ?_
        rintro e w4 ⟨rfl, hb4⟩
        have ho4 := owns_kept ho3 hb4
        have hR4 := rd_grown hR3 hb4
        have hG4 : w.grownBy w4 (some r) := grown_base hG3 (hb4.mono hG3.size)
        have hG4s := hG4.size
        have hds := decS_size 1 l.length
        clear ho3 hR3 hG3 hb4
        obtain ⟨d, hd⟩ : ∃ d, decS 1 l.length = d := ⟨_, rfl⟩
        rw [hd] at hds ⊢
        clear hd
        unfold Owns at ho4
        have hsz2 : (⟨#[110]⟩ ++ d : ByteArray).size ≤ 41 := by rw [ByteArray.size_append]; have : (⟨#[110]⟩ : ByteArray).size = 1 := rfl; omega
        have HZ : Hid ((⟨#[110]⟩ ++ d : ByteArray).size ≤ 41) := hsz2
        clear hsz2
        go_wp2_with (at_builtin; refine wpList_append_own _ rfl (.tmp 22) (.tmp 27) 23 rfl w.heap.size 9 i0 (.string ByteArray.empty) 1 16 Try.underlying23 hi hz0 hz1 hz2 rfl (by decide) _ _ _ rfl (ho4.alloc _) ⟨w4.heap.size, 0, none⟩ 1 1 _ rfl rfl (cell_one_new _ _ _) (strs_one [_]) (by unfold maxLen; omega) (by omega) (by simp; omega) ?_)
        intro x5 w5 hown5 hgrow5 _
        obtain ⟨ho5, hB5, hG5⟩ := HAPP.out w4 _ l _ x5 w5 ho4 hG4s hG4 hgrow5 hown5
        have hR5 := rd_kept hR4 hB5 hrl
        have hlen5 : lenOf x5 = l.length + 1 := by
          obtain ⟨a5, c5, h5⟩ := reads_shape (owns_reads ho5); rw [h5]; simp [lenOf]
        clear hown5 hgrow5 ho4 hB5 hR4 hG4
        go_wp2_with fail
        go_roundw
        case rel => exact ⟨l ++ [⟨#[110]⟩ ++ d], q + 1, ho5, by simp; omega, by
          intro s hs; rw [List.mem_append] at hs; rcases hs with hs | hs
          · exact HSH.out s hs
          · rw [List.mem_singleton] at hs; subst hs; exact HZ.out, hR5, by simp; omega, hG5⟩
        case measure => show 20 - lenOf x5 < 20 - l.length; omega
      · go_wp2_with fail
        go_ret
        exact ⟨_, l, q + 1, rfl, ho3, by omega, HSH.out, hR3, by omega, hG3⟩
  · have hx2' : (x == 0) = false := beq_eq_false_iff_ne.2 hx2
    have hx3' : (x == 1) = false := beq_eq_false_iff_ne.2 hx3
    clear hx2 hx3
    go_wp2_with fail
    go_ret
    exact ⟨_, l1, q1 + 1, rfl, ho2, by omega, HS1.out, hR2, by omega, hG2⟩
set_option maxHeartbeats 8000000 in
theorem set_draw (r p : Nat) (v : Value) (zs : List Int) (w : World) (h : RdAt w r v zs p) (hp : p ≤ 80000) :
    Calls Try.prog 30 #[.pointer (some ⟨r, 0, none⟩)] w fun e w' => ∃ u l q, e = .returned u ∧ Owns w' w.heap.size u l ∧ l.length ≤ 20 ∧ RdAt w' r v zs q ∧ q ≤ p + 100 ∧ w.grownBy w' (some r) := by
  have hrl := rd_lt h
  have ho0 : Owns (w.alloc (.cells #[] 9)) w.heap.size (.slice (some ⟨w.heap.size, 0, none⟩) 0 0) [] := World.ownsRow_lit w #[] 0 (Nat.le_refl _) (by simp) rfl
  have hR0 : RdAt (w.alloc (.cells #[] 9)) r v zs p := rd_grown h ((Below.refl _ w).alloc (Nat.le_refl _) _)
  have hG0 : w.grownBy (w.alloc (.cells #[] 9)) (some r) := World.grownBy_alloc w _ _
  clear h
  go_enter Try.func30, Try.ntmps30
  go_wp2_with fail
  refine (anyTexts_draw r p v zs _ hR0 hp).mono ?_
  rintro e w2 ⟨u2, l2, q2, rfl, ho2, hl2, _, hR2, hq2, hG2⟩
  have hox : Owns w2 w.heap.size (.slice (some ⟨w.heap.size, 0, none⟩) 0 0) [] := World.ownsRow.kept ho0 hG2 (own_ne_right ho0 hrl)
  have hG := grown_trans3 hG0 hG2
  have hr2 := owns_reads ho2
  have hsz := hG.size
  clear ho0 hR0 hG0 hG2 ho2
  obtain ⟨a2, c2, hu⟩ := reads_shape hr2
  subst hu
  go_wp2_with fail
  go_loopw [3, 5] (fun x i wr => ∃ (k : Nat) (O : List ByteArray), k ≤ l2.length ∧ i = .int .i64 (k : Int) ∧ Owns wr w.heap.size x O ∧ O.length ≤ k ∧ Below w2.heap.size w2 wr) (fun _ i _ => l2.length - (intOf i).toNat)
  case atStart => exact ⟨0, [], Nat.zero_le _, rfl, hox, by simp, Below.refl _ _⟩
  case round =>
    obtain ⟨k, O, hk, rfl, ho, hO, hB⟩ := hrel
    clear hox
    have hBs := hB.size
    by_cases hlt : k < l2.length
    · have hi1 : (k : Int) < (l2.length : Int) := by omega
      obtain ⟨bl, off, rfl, hbl, hc⟩ := reads_someS hr2 (by omega)
      have hcell : wr.cell? ⟨bl, off + k, none⟩ = some (.string (at_ l2 k)) := (hB.cell (p := ⟨bl, off + k, none⟩) hbl).trans (hc k hlt)
      clear hc
      by_cases hsz40 : ((at_ l2 k).size : Int) ≤ 40
      · go_wp2_with fail
        refine (l2Put_any _ O (at_ l2 k) w.heap.size _ ho (by omega) (by omega)).mono ?_
        rintro e w5 ⟨x5, rfl, ho5, hb5⟩
        have hB5 := below_stepT hB hb5
        have hpl := putM_len (at_ l2 k) O
        clear hb5 hB ho
        go_wp2_with fail
        go_roundw
        case rel => exact ⟨k + 1, _, hlt, by go_num, ho5, by omega, hB5⟩
        case measure => simp [intOf]; omega
      · go_wp2_with fail
        go_roundw
        case rel => exact ⟨k + 1, O, hlt, by go_num, ho, by omega, hB⟩
        case measure => simp [intOf]; omega
    · have hRk := rd_grown hR2 hB
      have hGk : w.grownBy wr (some r) := grown_base hG (hB.mono hsz)
      have hi1 : ¬ (k : Int) < (l2.length : Int) := by omega
      go_wp2_with fail
      go_ret
      exact ⟨_, rfl, O, ho, by omega, q2, hRk, hq2, hGk⟩

set_option maxHeartbeats 8000000 in
theorem anySet_draw (r p : Nat) (v : Value) (zs : List Int) (w : World) (h : RdAt w r v zs p) (hp : p ≤ 70000) :
    Calls Try.prog 23 #[.pointer (some ⟨r, 0, none⟩)] w fun e w' => ∃ u l q, e = .returned u ∧ Owns w' w.heap.size u l ∧ l.length ≤ 20 ∧ RdAt w' r v zs q ∧ q ≤ p + 200 ∧ w.grownBy w' (some r) := by
  have hrl := rd_lt h
  go_enter Try.func23, Try.ntmps23
  go_wp2_with fail
  refine (pick_any r p v zs _ _ h (by omega) (by omega) (by omega)).mono ?_
  rintro e w2 ⟨x, rfl, hx0, hx1, hR2, hg2⟩
  have hsz := hg2.size
  clear h
  by_cases hx : x = 0
  · subst hx
    go_wp2_with fail
    refine (anyTexts_draw r (p + 1) v zs _ hR2 (by omega)).mono ?_
    rintro e w3 ⟨u3, l3, q3, rfl, ho3, hl3, _, hR3, hq3, hG3⟩
    have hG := grown_trans3 hg2 hG3
    go_wp2_with fail
    go_ret
    exact ⟨_, l3, q3, rfl, owns_base ho3 hsz, hl3, hR3, by omega, hG⟩
  · have hx' : (x == 0) = false := beq_eq_false_iff_ne.2 hx
    clear hx
    go_wp2_with fail
    refine (set_draw r (p + 1) v zs _ hR2 (by omega)).mono ?_
    rintro e w3 ⟨u3, l3, q3, rfl, ho3, hl3, hR3, hq3, hG3⟩
    have hG := grown_trans3 hg2 hG3
    go_wp2_with fail
    go_ret
    exact ⟨_, l3, q3, rfl, owns_base ho3 hsz, hl3, hR3, by omega, hG⟩

end Go.Proofs.Ytdaahcenplepjaa
