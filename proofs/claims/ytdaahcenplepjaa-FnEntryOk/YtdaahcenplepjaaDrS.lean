/- Draws of scores. -/
import Derived.Test.YtdaahcenplepjaaDrX
import Derived.Test.YtdaahcenplepjaaScX
namespace Go.Proofs.Ytdaahcenplepjaa
open Go.RowKit

theorem sc_ne {w : World} {base r : Nat} {v : Value} {l : List (ByteArray × Int)} (h : ScOwns w base v l) (hr : r < base) : v.ownBlock = none ∨ v.ownBlock ≠ some r := by
  cases hv : v.ownBlock with
  | none => exact .inl rfl
  | some k => right; intro e; simp only [Option.some.injEq] at e; have := (World.ownsRow.lt h k hv).1; omega
def nm (k : Nat) : ByteArray := ⟨#[110]⟩ ++ decS 1 k
theorem nm_all : ((List.range 17).all fun a => (List.range 17).all fun b => decide (a = b) || !decide ((nm a).data.toList = (nm b).data.toList)) = true := by decide +kernel
theorem nm_inj {a b : Nat} (ha : a < 17) (hb : b < 17) (h : nm a = nm b) : a = b := by
  have := List.all_eq_true.1 (List.all_eq_true.1 nm_all a (List.mem_range.2 ha)) b (List.mem_range.2 hb)
  rw [h] at this; simpa using this
theorem nm_head (k : Nat) : (nm k).data.toList.head? = some 110 := by unfold nm; simp
theorem nm_size (k : Nat) : (nm k).size ≤ 3 := by
  unfold nm; rw [ByteArray.size_append]; have := decS_size 1 k
  have h : (ByteArray.mk #[110]).size = 1 := rfl
  omega
/-- texts of a draw: none begins with the letter n, but for the first so many that are made so -/
def nams (O : List (ByteArray × Int)) (n : Nat) : Prop := ∀ z ∈ O, notN z.1 ∨ ∃ k, k < n ∧ z.1 = nm k
theorem nams_new {O : List (ByteArray × Int)} {n : Nat} (h : nams O n) (hn : n < 17) : ∀ z ∈ O, z.1 ≠ nm n := by
  intro z hz e
  rcases h z hz with h' | ⟨k, hk, h'⟩
  · exact h' (by rw [e]; exact nm_head n)
  · have := nm_inj (by omega) hn (h'.symm.trans e); omega
theorem nams_put {O : List (ByteArray × Int)} {n : Nat} {c : Int} (h : nams O n) : nams (scIns O (nm n, c)) (n + 1) := by
  intro z hz
  rcases scIns_mem.1 hz with h' | h'
  · right; exact ⟨n, by omega, by rw [h']⟩
  · rcases h z h' with h'' | ⟨k, hk, h''⟩
    · exact .inl h''
    · exact .inr ⟨k, by omega, h''⟩
def numsS : List Int := [0, 1, 1, 2, -5, 7, 1000000000]
theorem ints_own (w : World) (L : List Int) (n : Nat) (hn : L.length = n) (hm : n ≤ 1000) : (w.alloc (.cells (L.map (Value.int .i64)).toArray 3)).ownsRow w.heap.size 3 1 (.slice (some ⟨w.heap.size, 0, none⟩) L.length n) L.length (L.map (Value.int .i64)) := by
  have := World.ownsRow_lit w (base := w.heap.size) (e := 3) (size := 1) (L.map (Value.int .i64)).toArray n (Nat.le_refl _) (by unfold maxLen; omega) (by simp [hn])
  rw [hn]; simpa using this
/-- one of some numbers that are laid out on the spot -/
theorem one_spot (r p : Nat) (v : Value) (zs : List Int) (L : List Int) (n : Nat) (w : World) (h : RdAt w r v zs p) (hp : p ≤ 90000) (hl : L.length = n) (h0 : 0 < n) (hn : n ≤ 1000) :
    Calls Try.prog 20 #[.pointer (some ⟨r, 0, none⟩), .slice (some ⟨w.heap.size, 0, none⟩) n n] (w.alloc (.cells (L.map (Value.int .i64)).toArray 3)) fun e w' => ∃ s : Int, e = .returned (.int .i64 s) ∧ s ∈ L ∧ RdAt w' r v zs (p + 1) ∧ w.grownBy w' (some r) := by
  have hB := (Below.refl w.heap.size w).alloc (Nat.le_refl _) (.cells (L.map (Value.int .i64)).toArray 3)
  have ho := ints_own w L n hl hn
  have := one_any r p v zs L w.heap.size n w.heap.size _ (rd_grown h hB) (by omega) ho (rd_lt h) (by omega) (by omega)
  rw [hl] at this
  refine this.mono ?_
  rintro e w2 ⟨s, rfl, hmem, hR2, hg2⟩
  exact ⟨s, rfl, hmem, hR2, grown_trans2 (World.grownBy_alloc w _ (some r)) hg2⟩
theorem sc_empty (w : World) : ScOwns (w.alloc (.cells #[] 62)) w.heap.size (.slice (some ⟨w.heap.size, 0, none⟩) 0 0) [] := World.ownsRow_lit w #[] 0 (Nat.le_refl _) (by simp) rfl
theorem sc_ok_nil : scOkB [] = true := by decide

set_option maxHeartbeats 4000000 in
theorem scores_draw (r p : Nat) (v : Value) (zs : List Int) (w : World) (h : RdAt w r v zs p) (hp : p ≤ 80000) :
    Calls Try.prog 31 #[.pointer (some ⟨r, 0, none⟩)] w fun e w' => ∃ x O q, e = .returned x ∧ ScOwns w' w.heap.size x O ∧ scOkB O = true ∧ RdAt w' r v zs q ∧ q ≤ p + 20 ∧ w.grownBy w' (some r) := by
  have hrl := rd_lt h
  have hB0 := (Below.refl w.heap.size w).alloc (Nat.le_refl _) (.cells #[] 62)
  have ho0 := sc_empty w
  go_enter Try.func31, Try.ntmps31
  go_wp2_with fail
  refine (pick_any r p v zs 7 _ (rd_grown h hB0) (by omega) (by omega) (by omega)).mono ?_
  rintro e w1 ⟨x, rfl, hx0, hx1, hR1, hg1⟩
  obtain ⟨n, rfl⟩ := Int.eq_ofNat_of_zero_le hx0
  have ho1 : ScOwns w1 w.heap.size (.slice (some ⟨w.heap.size, 0, none⟩) 0 0) [] := World.ownsRow.kept ho0 hg1 (sc_ne ho0 hrl)
  have hG1 := grown_trans2 (World.grownBy_alloc w (.cells #[] 62) (some r)) hg1
  clear ho0 hB0 hg1 h
  go_wp2_with fail
  go_loopw [3, 4] (fun u i wr => ∃ (k : Nat) (O : List (ByteArray × Int)) (q : Nat), i = .int .i64 (k : Int) ∧ ScOwns wr w.heap.size u O ∧ scOkB O = true ∧ nams O 0 ∧ k ≤ 6 ∧ RdAt wr r v zs q ∧ q + 2 * k ≤ p + 13 ∧ w.grownBy wr (some r)) (fun _ i _ => (intOf i).toNat)
  case atStart => exact ⟨n, [], p + 1, rfl, ho1, sc_ok_nil, (fun z hz => by cases hz), by omega, hR1, by omega, hG1⟩
  case round =>
    obtain ⟨k, O, q, rfl, ho, hok, hnm, hk6, hR, hq, hG⟩ := hrel
    clear ho1 hR1 hG1
    have HNM : Hid (nams O 0) := hnm
    have HOK : Hid (scOkB O = true) := hok
    clear hnm hok
    by_cases h0 : 0 < k
    · obtain ⟨j, rfl⟩ : ∃ j, k = j + 1 := ⟨k - 1, by omega⟩
      go_wp2_with fail
      refine (text_any r q v zs _ hR (by omega)).mono ?_
      rintro e w2 ⟨s, rfl, hs, hnn, hR2, hg2⟩
      have ho2 : ScOwns w2 w.heap.size _ O := World.ownsRow.kept ho hg2 (sc_ne ho hrl)
      have hG2 := grown_trans2 hG hg2
      clear ho hR hg2 hG
      go_wp2_with fail
      refine (one_spot r _ v zs numsS 7 _ hR2 (by omega) rfl (by omega) (by omega)).mono ?_
      rintro e w3 ⟨c, rfl, hc, hR3, hg3⟩
      have ho3 : ScOwns w3 w.heap.size _ O := World.ownsRow.kept ho2 hg3 (sc_ne ho2 hrl)
      have hG3 := grown_trans2 hG2 hg3
      clear ho2 hR2 hg3 hG2
      have hl16 := scOk_len HOK.out
      go_wp2_with fail
      refine (specScoresPut_any _ O (s, c) _ (ownsR_reads scC_len ho3) (by omega)).mono ?_
      rintro e w4 ⟨u, rfl, ho4, hb4⟩
      have hP := scPut_any (x := (s, c)) HOK.out
      have HP1 : Hid (scOkB (scPutR O (s, c)) = true) := hP.1
      have HP2 : Hid (nams (scPutR O (s, c)) 0) := fun z hz => by
        rcases hP.2.2 z hz with h' | h'
        · left; rw [h']; exact hnn
        · exact HNM.out z h'
      have ho5 : ScOwns w4 w.heap.size u (scPutR O (s, c)) := ownsR_base ho4 hG3.size
      have hR4 := rd_grown hR3 hb4
      have hG4 := grown_trans2 hG3 (grown_of_below2 hb4)
      clear hP ho3 hR3 hG3 hb4 ho4 hc
      go_wp2_with fail
      go_roundw
      case rel => exact ⟨j, _, _, by go_num, ho5, HP1.out, HP2.out, by omega, hR4, by omega, hG4⟩
      case measure => simp [intOf]
    · obtain rfl : k = 0 := by omega
      go_wp2_with fail
      refine (pick_any r q v zs 30 _ hR (by omega) (by omega) (by omega)).mono ?_
      rintro e w2 ⟨x, rfl, hx0, hx1, hR2, hg2⟩
      have ho2 : ScOwns w2 w.heap.size _ O := World.ownsRow.kept ho hg2 (sc_ne ho hrl)
      have hG2 := grown_trans2 hG hg2
      clear ho hR hg2 hG
      by_cases hz : x = 0
      · have hz' : (x == 0) = true := by simpa using hz
        clear hz
        go_wp2_with fail
        go_loopw [3, 5] (fun u i wr => ∃ (n : Nat) (O : List (ByteArray × Int)), i = .int .i64 (n : Int) ∧ ScOwns wr w.heap.size u O ∧ scOkB O = true ∧ nams O n ∧ n ≤ O.length ∧ RdAt wr r v zs (q + 1) ∧ w.grownBy wr (some r)) (fun _ i _ => 16 - (intOf i).toNat)
        case atStart => exact ⟨0, O, rfl, ho2, HOK.out, HNM.out, Nat.zero_le _, hR2, hG2⟩
        case round =>
          obtain ⟨n, O2, rfl, ho, hok, hnm, hnl, hR, hG⟩ := hrel
          clear ho2 hR2 hG2
          have hl16 := scOk_len hok
          obtain ⟨ao, cap, hsh⟩ := readsR_shape (ownsR_reads scC_len ho)
          subst hsh
          by_cases hlt : O2.length < 16
          · have hPN := scPut_new (x := (nm n, (n : Int) % 3)) hok (by
              have := nm_size n
              unfold scFitsB; simp only [Bool.and_eq_true, decide_eq_true_eq]; omega) (nams_new hnm (by omega)) hlt
            have HP1 : Hid (scOkB (scIns O2 (nm n, (n : Int) % 3)) = true) := hPN.2
            have HP2 : Hid (nams (scIns O2 (nm n, (n : Int) % 3)) (n + 1)) := nams_put hnm
            have HP3 : Hid (scPutR O2 (nm n, (n : Int) % 3) = scIns O2 (nm n, (n : Int) % 3)) := hPN.1
            clear hPN hok hnm
            have hdz := decS_size 1 n
            go_wp2_with fail
            refine (l1Dec_any 1 n _ (by omega) (by omega)).mono ?_
            rintro e w3 ⟨rfl, hb3⟩
            have ho3 := ownsR_kept ho hb3
            have hR3 := rd_grown hR hb3
            have hG3 := grown_trans2 hG (grown_of_below2 hb3)
            clear ho hR hG hb3
            go_wp2_with fail
            refine (specScoresPut_any _ O2 (nm n, (n : Int) % 3) _ (ownsR_reads scC_len ho3) (by omega)).mono ?_
            rintro e w4 ⟨u, rfl, ho4, hb4⟩
            rw [HP3.out] at ho4
            have ho5 : ScOwns w4 w.heap.size u (scIns O2 (nm n, (n : Int) % 3)) := ownsR_base ho4 hG3.size
            have hR4 := rd_grown hR3 hb4
            have hG4 := grown_trans2 hG3 (grown_of_below2 hb4)
            clear ho3 hR3 hG3 hb4 ho4
            go_wp2_with fail
            go_roundw
            case rel => exact ⟨n + 1, _, by go_num, ho5, HP1.out, HP2.out, by rw [scIns_len]; omega, hR4, hG4⟩
            case measure => simp [intOf]; omega
          · go_wp2_with fail
            go_ret
            exact ⟨_, O2, q + 1, rfl, ho, hok, hR, by omega, hG⟩
      · have hz' : (x == 0) = false := by simpa using hz
        clear hz
        go_wp2_with fail
        go_ret
        exact ⟨_, O, q + 1, rfl, ho2, HOK.out, hR2, by omega, hG2⟩
set_option maxHeartbeats 4000000 in
theorem anyScores_draw (r p : Nat) (v : Value) (zs : List Int) (w : World) (h : RdAt w r v zs p) (hp : p ≤ 70000) :
    Calls Try.prog 24 #[.pointer (some ⟨r, 0, none⟩)] w fun e w' => ∃ x O q, e = .returned x ∧ ScOwns w' w.heap.size x O ∧ O.length ≤ 17 ∧ RdAt w' r v zs q ∧ q ≤ p + 25 ∧ w.grownBy w' (some r) := by
  obtain ⟨i0, hi0, hz0, hz1, hz2⟩ := info_parts scInfo
  have hrl := rd_lt h
  go_enter Try.func24, Try.ntmps24
  go_wp2_with fail
  refine (scores_draw r p v zs _ h (by omega)).mono ?_
  rintro e w1 ⟨u, O, q, rfl, ho1, hok, hR1, hq, hg1⟩
  have hl16 := scOk_len hok
  clear hok h
  go_wp2_with fail
  refine (pick_any r q v zs 10 _ hR1 (by omega) (by omega) (by omega)).mono ?_
  rintro e w2 ⟨x, rfl, hx0, hx1, hR2, hg2⟩
  have ho2 : ScOwns w2 w.heap.size _ O := World.ownsRow.kept ho1 hg2 (sc_ne ho1 hrl)
  have hG2 := grown_trans2 hg1 hg2
  clear ho1 hR1 hg2 hg1
  by_cases hz : x = 0
  · have hz' : (x == 0) = true := by simpa using hz
    clear hz
    go_wp2_with fail
    refine (text_any r _ v zs _ hR2 (by omega)).mono ?_
    rintro e w3 ⟨s, rfl, hs, _, hR3, hg3⟩
    have ho3 : ScOwns w3 w.heap.size _ O := World.ownsRow.kept ho2 hg3 (sc_ne ho2 hrl)
    have hG3 := grown_trans2 hG2 hg3
    clear ho2 hR2 hg3 hG2
    go_wp2_with fail
    refine (one_spot r _ v zs [0, 1000000001] 2 _ hR3 (by omega) rfl (by omega) (by omega)).mono ?_
    rintro e w4 ⟨c, rfl, _, hR4, hg4⟩
    have ho4 : ScOwns w4 w.heap.size _ O := World.ownsRow.kept ho3 hg4 (sc_ne ho3 hrl)
    have hG4 := grown_trans2 hG3 hg4
    have hG4s := hG4.size
    clear ho3 hR3 hg4 hG3
    go_wp2_with (at_builtin; refine wpList_append_own _ rfl (.tmp 9) (.tmp 16) 24 rfl w.heap.size 62 i0 _ 2 24 Try.underlying24 hi0 hz0 hz1 hz2 rfl (by decide) _ _ _ rfl (World.ownsRow.alloc ho4 _) ⟨w4.heap.size, 0, none⟩ 1 1 (scC (s, c)) rfl rfl (news_new _ _ _) (scC_one _) (by unfold maxLen; omega) (by omega) (by simp; omega) ?_)
    intro x5 w5 hown5 hg5 _
    have ho5 : ScOwns w5 w.heap.size x5 (O ++ [(s, c)]) := by unfold ScOwns OwnsR; rw [List.length_append, List.flatMap_append]; simpa using hown5
    have hB5 : Below w.heap.size w4 w5 := ((Below.refl w.heap.size w4).alloc hG4s _).grown hg5 (by simp; omega) (fun k hk => (World.ownsRow.lt ho4 k hk).1)
    have hR5 := rd_kept hR4 hB5 hrl
    have hG5 := grown_base hG4 hB5
    clear ho4 hR4 hG4 hown5 hg5 hB5
    go_wp2_with fail
    go_ret
    exact ⟨x5, O ++ [(s, c)], _, rfl, ho5, by simp; omega, hR5, by omega, hG5⟩
  · have hz' : (x == 0) = false := by simpa using hz
    clear hz
    go_wp2_with fail
    go_ret
    exact ⟨_, O, q + 1, rfl, ho2, by omega, hR2, by omega, hG2⟩

end Go.Proofs.Ytdaahcenplepjaa
