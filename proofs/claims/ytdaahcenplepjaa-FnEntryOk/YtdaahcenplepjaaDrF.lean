/- Draws of fields. -/
import Derived.Test.YtdaahcenplepjaaDrX
import Derived.Test.YtdaahcenplepjaaPrX
import Derived.Test.YtdaahcenplepjaaBx
namespace Go.Proofs.Ytdaahcenplepjaa
open Go.RowKit

theorem pr_ne {w : World} {base r : Nat} {v : Value} {l : List (ByteArray × ByteArray)} (h : PrOwns w base v l) (hr : r < base) : v.ownBlock = none ∨ v.ownBlock ≠ some r := by
  cases hv : v.ownBlock with
  | none => exact .inl rfl
  | some k => right; intro e; simp only [Option.some.injEq] at e; have := (World.ownsRow.lt h k hv).1; omega
def notF (s : ByteArray) : Prop := s.data.toList.head? ≠ some 102
theorem words_notF {t : ByteArray} (ht : fromB ⟨#[120]⟩ t) : ∀ s ∈ words t, notF s := by
  intro s hs
  simp only [words, List.mem_cons, List.not_mem_nil, or_false] at hs
  rcases hs with h | h | h | h | h | h | h | h | h | h | h
  all_goals subst h
  all_goals first | (unfold notF; decide) | skip
  unfold notF
  intro e
  have := ht 102 (List.mem_of_mem_head? e)
  simp at this
set_option maxHeartbeats 2000000 in
theorem textF_any (r p : Nat) (v : Value) (zs : List Int) (w : World) (h : RdAt w r v zs p) (hp : p ≤ 100000) :
    Calls Try.prog 21 #[.pointer (some ⟨r, 0, none⟩)] w fun e w' => ∃ s, e = .returned (.string s) ∧ s.size ≤ 41 ∧ notF s ∧ RdAt w' r v zs (p + 1) ∧ w.grownBy w' (some r) := by
  have hrl := rd_lt h
  go_enter Try.func21, Try.ntmps21
  go_wp2_with fail
  refine (many_any ⟨#[120]⟩ 40 _ (by decide) (by decide) (by decide)).mono ?_
  rintro e w1 ⟨t, rfl, ht, hft, rfl⟩
  have ht' : t.size = 40 := ht
  go_wp2_with fail
  have hB := (Below.refl w.heap.size w).alloc (Nat.le_refl _) (.cells ((words t).map Value.string).toArray 9)
  have ho : Owns (w.alloc (.cells ((words t).map Value.string).toArray 9)) w.heap.size (.slice (some ⟨w.heap.size, 0, none⟩) 11 11) (words t) := World.ownsRow_lit w ((words t).map Value.string).toArray 11 (Nat.le_refl _) (by decide) rfl
  refine (of_any r p v zs _ (words t) w.heap.size (w.alloc (.cells ((words t).map Value.string).toArray 9)) (rd_grown h hB) hp ho hrl (Nat.succ_pos _) (show 11 ≤ 1000 by decide)).mono ?_
  rintro e w2 ⟨s, rfl, hmem, hR2, hg2⟩
  have hs : s.size ≤ 41 := words_short (by omega) s hmem
  have hnn : notF s := words_notF hft s hmem
  have hg3 := grown_trans2 (World.grownBy_alloc w (.cells ((words t).map Value.string).toArray 9) (some r)) hg2
  clear hg2 ho hB
  go_wp2_with fail
  go_ret
  exact ⟨s, rfl, hs, hnn, hR2, hg3⟩
def nf (k : Nat) : ByteArray := ⟨#[102]⟩ ++ decS 1 k
theorem nf_all : ((List.range 27).all fun a => (List.range 27).all fun b => decide (a = b) || !decide ((nf a).data.toList = (nf b).data.toList)) = true := by decide +kernel
theorem nf_inj {a b : Nat} (ha : a < 27) (hb : b < 27) (h : nf a = nf b) : a = b := by
  have := List.all_eq_true.1 (List.all_eq_true.1 nf_all a (List.mem_range.2 ha)) b (List.mem_range.2 hb)
  rw [h] at this; simpa using this
theorem nf_head (k : Nat) : (nf k).data.toList.head? = some 102 := by unfold nf; simp
theorem nf_size (k : Nat) : (nf k).size ≤ 3 := by
  unfold nf; rw [ByteArray.size_append]; have := decS_size 1 k
  have h : (ByteArray.mk #[102]).size = 1 := rfl
  omega
/-- names of a draw: none begins with the letter f, but for the first so many that are made so -/
def namf (O : List (ByteArray × ByteArray)) (n : Nat) : Prop := ∀ z ∈ O, notF z.1 ∨ ∃ k, k < n ∧ z.1 = nf k
theorem namf_new {O : List (ByteArray × ByteArray)} {n : Nat} (h : namf O n) (hn : n < 27) : ∀ z ∈ O, z.1 ≠ nf n := by
  intro z hz e
  rcases h z hz with h' | ⟨k, hk, h'⟩
  · exact h' (by rw [e]; exact nf_head n)
  · have := nf_inj (by omega) hn (h'.symm.trans e); omega
theorem namf_put {O : List (ByteArray × ByteArray)} {n : Nat} {c : ByteArray} (h : namf O n) : namf (prIns O (nf n, c)) (n + 1) := by
  intro z hz
  rcases prIns_mem.1 hz with h' | h'
  · right; exact ⟨n, by omega, by rw [h']⟩
  · rcases h z h' with h'' | ⟨k, hk, h''⟩
    · exact .inl h''
    · exact .inr ⟨k, by omega, h''⟩
theorem pr_empty (w : World) : PrOwns (w.alloc (.cells #[] 65)) w.heap.size (.slice (some ⟨w.heap.size, 0, none⟩) 0 0) [] := World.ownsRow_lit w #[] 0 (Nat.le_refl _) (by simp) rfl
theorem pr_ok_nil : prOkB [] = true := by decide

set_option maxHeartbeats 4000000 in
theorem fields_draw (r p : Nat) (v : Value) (zs : List Int) (w : World) (h : RdAt w r v zs p) (hp : p ≤ 80000) :
    Calls Try.prog 32 #[.pointer (some ⟨r, 0, none⟩)] w fun e w' => ∃ x O q, e = .returned x ∧ PrOwns w' w.heap.size x O ∧ prOkB O = true ∧ namf O 0 ∧ RdAt w' r v zs q ∧ q ≤ p + 20 ∧ w.grownBy w' (some r) := by
  have hrl := rd_lt h
  have hB0 := (Below.refl w.heap.size w).alloc (Nat.le_refl _) (.cells #[] 65)
  have ho0 := pr_empty w
  go_enter Try.func32, Try.ntmps32
  go_wp2_with fail
  refine (pick_any r p v zs 5 _ (rd_grown h hB0) (by omega) (by omega) (by omega)).mono ?_
  rintro e w1 ⟨x, rfl, hx0, hx1, hR1, hg1⟩
  obtain ⟨n, rfl⟩ := Int.eq_ofNat_of_zero_le hx0
  have ho1 : PrOwns w1 w.heap.size (.slice (some ⟨w.heap.size, 0, none⟩) 0 0) [] := World.ownsRow.kept ho0 hg1 (pr_ne ho0 hrl)
  have hG1 := grown_trans2 (World.grownBy_alloc w (.cells #[] 65) (some r)) hg1
  clear ho0 hB0 hg1 h
  go_wp2_with fail
  go_loopw [3, 4] (fun u i wr => ∃ (k : Nat) (O : List (ByteArray × ByteArray)) (q : Nat), i = .int .i64 (k : Int) ∧ PrOwns wr w.heap.size u O ∧ prOkB O = true ∧ namf O 0 ∧ k ≤ 4 ∧ RdAt wr r v zs q ∧ q + 2 * k ≤ p + 9 ∧ w.grownBy wr (some r)) (fun _ i _ => (intOf i).toNat)
  case atStart => exact ⟨n, [], p + 1, rfl, ho1, pr_ok_nil, (fun z hz => by cases hz), by omega, hR1, by omega, hG1⟩
  case round =>
    obtain ⟨k, O, q, rfl, ho, hok, hnm, hk6, hR, hq, hG⟩ := hrel
    clear ho1 hR1 hG1
    have HNM : Hid (namf O 0) := hnm
    have HOK : Hid (prOkB O = true) := hok
    clear hnm hok
    by_cases h0 : 0 < k
    · obtain ⟨j, rfl⟩ : ∃ j, k = j + 1 := ⟨k - 1, by omega⟩
      go_wp2_with fail
      refine (textF_any r q v zs _ hR (by omega)).mono ?_
      rintro e w2 ⟨s, rfl, hs, hnn, hR2, hg2⟩
      have ho2 : PrOwns w2 w.heap.size _ O := World.ownsRow.kept ho hg2 (pr_ne ho hrl)
      have hG2 := grown_trans2 hG hg2
      clear ho hR hg2 hG
      go_wp2_with fail
      refine (textF_any r _ v zs _ hR2 (by omega)).mono ?_
      rintro e w3 ⟨c, rfl, hc, _, hR3, hg3⟩
      have ho3 : PrOwns w3 w.heap.size _ O := World.ownsRow.kept ho2 hg3 (pr_ne ho2 hrl)
      have hG3 := grown_trans2 hG2 hg3
      clear ho2 hR2 hg3 hG2
      have hl16 := prOk_len HOK.out
      go_wp2_with fail
      refine (specFieldsPut_any _ O (s, c) _ (ownsR_reads prC_len ho3) (by omega)).mono ?_
      rintro e w4 ⟨u, rfl, ho4, hb4⟩
      have hP := prPut_any (x := (s, c)) HOK.out
      have HP1 : Hid (prOkB (prPutR O (s, c)) = true) := hP.1
      have HP2 : Hid (namf (prPutR O (s, c)) 0) := fun z hz => by
        rcases hP.2.2 z hz with h' | h'
        · left; rw [h']; exact hnn
        · exact HNM.out z h'
      have ho5 : PrOwns w4 w.heap.size u (prPutR O (s, c)) := ownsR_base ho4 hG3.size
      have hR4 := rd_grown hR3 hb4
      have hG4 := grown_trans2 hG3 (grown_of_below2 hb4)
      clear hP ho3 hR3 hG3 hb4 ho4 hc
      go_wp2_with fail
      go_roundw
      case rel => exact ⟨j, _, _, by go_num, ho5, HP1.out, HP2.out, by omega, hR4, by omega, hG4⟩
      case measure => simp [intOf]
    · obtain rfl : k = 0 := by omega
      go_wp2_with fail
      go_ret
      exact ⟨_, O, q, rfl, ho, HOK.out, HNM.out, hR, by omega, hG⟩
theorem three_ways (x : Int) : x = 0 ∨ x = 1 ∨ ((x == 0) = false ∧ (x == 1) = false) := by
  by_cases h0 : x = 0
  · exact .inl h0
  · by_cases h1 : x = 1
    · exact .inr (.inl h1)
    · exact .inr (.inr ⟨beq_eq_false_iff_ne.2 h0, beq_eq_false_iff_ne.2 h1⟩)
set_option maxHeartbeats 4000000 in
set_option maxRecDepth 100000 in
theorem anyFields_draw (r p : Nat) (v : Value) (zs : List Int) (w : World) (h : RdAt w r v zs p) (hp : p ≤ 70000) :
    Calls Try.prog 25 #[.pointer (some ⟨r, 0, none⟩)] w fun e w' => ∃ x O q, e = .returned x ∧ PrOwns w' w.heap.size x O ∧ O.length ≤ 17 ∧ RdAt w' r v zs q ∧ q ≤ p + 25 ∧ w.grownBy w' (some r) := by
  obtain ⟨i0, hi0, hz0, hz1, hz2⟩ := info_parts prInfo
  have hrl := rd_lt h
  go_enter Try.func25, Try.ntmps25
  go_wp2_with fail
  refine (fields_draw r p v zs _ h (by omega)).mono ?_
  rintro e w1 ⟨u, O, q, rfl, ho1, hok, hnm, hR1, hq, hg1⟩
  have hl16 := prOk_len hok
  have HOK : Hid (prOkB O = true) := hok
  have HNM : Hid (namf O 0) := hnm
  clear hok hnm h
  go_wp2_with fail
  refine (pick_any r q v zs 12 _ hR1 (by omega) (by omega) (by omega)).mono ?_
  rintro e w2 ⟨x, rfl, hx0, hx1, hR2, hg2⟩
  have ho2 : PrOwns w2 w.heap.size _ O := World.ownsRow.kept ho1 hg2 (pr_ne ho1 hrl)
  have hG2 := grown_trans2 hg1 hg2
  clear ho1 hR1 hg2 hg1
  have hx := three_ways x
  clear hx0 hx1
  rcases hx with rfl | rfl | ⟨ha, hb⟩
  · go_wp2_with fail
    refine (textF_any r _ v zs _ hR2 (by omega)).mono ?_
    rintro e w3 ⟨s, rfl, hs, _, hR3, hg3⟩
    have ho3 : PrOwns w3 w.heap.size _ O := World.ownsRow.kept ho2 hg3 (pr_ne ho2 hrl)
    have hG3 := grown_trans2 hG2 hg3
    have hG3s := hG3.size
    clear ho2 hR2 hg3 hG2
    have hsrc : ∀ j u, (prC (s, ⟨#[]⟩))[j]? = some u → (w3.alloc (.cells #[.string s, .string ⟨#[]⟩] 65)).cell? ((⟨w3.heap.size, 0, none⟩ : Addr).add j) = some u := fun j u hu => by
      rw [Addr.add_mid, cell_of_row _ _ _ _ _ _ (heap_alloc_new w3 _)]; simpa [prC] using hu
    have HSR : Hid (∀ j u, (prC (s, ⟨#[]⟩))[j]? = some u → (w3.alloc (.cells #[.string s, .string ⟨#[]⟩] 65)).cell? ((⟨w3.heap.size, 0, none⟩ : Addr).add j) = some u) := hsrc
    clear hsrc
    go_wp2_with (at_builtin; refine wpList_append_own _ rfl (.tmp 11) (.tmp 15) 25 rfl w.heap.size 65 i0 _ 2 32 Try.underlying25 hi0 hz0 hz1 hz2 rfl (by decide) _ _ _ rfl (World.ownsRow.alloc ho3 _) ⟨w3.heap.size, 0, none⟩ 1 1 (prC (s, ⟨#[]⟩)) rfl rfl HSR.out (prC_one _) (by unfold maxLen; omega) (by omega) (by simp; omega) ?_)
    intro x5 w5 hown5 hg5 _
    have ho5 : PrOwns w5 w.heap.size x5 (O ++ [(s, ⟨#[]⟩)]) := by unfold PrOwns OwnsR; rw [List.length_append, List.flatMap_append]; simpa using hown5
    have hB5 : Below w.heap.size w3 w5 := ((Below.refl w.heap.size w3).alloc hG3s _).grown hg5 (by simp; omega) (fun k hk => (World.ownsRow.lt ho3 k hk).1)
    have hR5 := rd_kept hR3 hB5 hrl
    have hG5 := grown_base hG3 hB5
    clear ho3 hR3 hG3 hown5 hg5 hB5
    go_wp2_with fail
    go_ret
    exact ⟨x5, O ++ [(s, ⟨#[]⟩)], _, rfl, ho5, by simp; omega, hR5, by omega, hG5⟩
  · go_wp2_with fail
    go_loopw [3, 4] (fun u i wr => ∃ (n : Nat) (O : List (ByteArray × ByteArray)), i = .int .i64 (n : Int) ∧ PrOwns wr w.heap.size u O ∧ prOkB O = true ∧ namf O n ∧ n ≤ O.length + 10 ∧ RdAt wr r v zs (q + 1) ∧ w.grownBy wr (some r)) (fun _ i _ => 26 - (intOf i).toNat)
    case atStart => exact ⟨10, O, rfl, ho2, HOK.out, (fun z hz => by rcases HNM.out z hz with h' | ⟨k, hk, _⟩; exact .inl h'; omega), by omega, hR2, hG2⟩
    case round =>
      obtain ⟨n, O2, rfl, ho, hok, hnm, hnl, hR, hG⟩ := hrel
      clear ho2 hR2 hG2
      have hl16 := prOk_len hok
      obtain ⟨ao, cap, hsh⟩ := readsR_shape (ownsR_reads prC_len ho)
      subst hsh
      by_cases hlt : O2.length < 16
      · have hPN := prPut_new (x := (nf n, ⟨#[]⟩)) hok (by
          have := nf_size n
          unfold prFitsB; simp only [Bool.and_eq_true, decide_eq_true_eq]; exact ⟨by omega, by decide⟩) (namf_new hnm (by omega)) hlt
        have HP1 : Hid (prOkB (prIns O2 (nf n, ⟨#[]⟩)) = true) := hPN.2
        have HP2 : Hid (namf (prIns O2 (nf n, ⟨#[]⟩)) (n + 1)) := namf_put hnm
        have HP3 : Hid (prPutR O2 (nf n, ⟨#[]⟩) = prIns O2 (nf n, ⟨#[]⟩)) := hPN.1
        clear hPN hok hnm
        have hdz := decS_size 1 n
        go_wp2_with fail
        refine (l1Dec_any 1 n _ (by omega) (by omega)).mono ?_
        rintro e w3 ⟨rfl, hb3⟩
        have ho3 := ownsR_kept ho hb3
        have hR3 := rd_grown hR hb3
        have hG3 := grown_trans2 hG (grown_of_below2 hb3)
        clear ho hR hG hb3
        go_wp2_with fail
        refine (specFieldsPut_any _ O2 (nf n, ⟨#[]⟩) _ (ownsR_reads prC_len ho3) (by omega)).mono ?_
        rintro e w4 ⟨u, rfl, ho4, hb4⟩
        rw [HP3.out] at ho4
        have ho5 : PrOwns w4 w.heap.size u (prIns O2 (nf n, ⟨#[]⟩)) := ownsR_base ho4 hG3.size
        have hR4 := rd_grown hR3 hb4
        have hG4 := grown_trans2 hG3 (grown_of_below2 hb4)
        clear ho3 hR3 hG3 hb4 ho4
        go_wp2_with fail
        go_roundw
        case rel => exact ⟨n + 1, _, by go_num, ho5, HP1.out, HP2.out, by rw [prIns_len]; omega, hR4, hG4⟩
        case measure => simp [intOf]; omega
      · go_wp2_with fail
        go_ret
        exact ⟨_, O2, q + 1, rfl, ho, by omega, hR, by omega, hG⟩
  · go_wp2_with fail
    go_ret
    exact ⟨_, O, q + 1, rfl, ho2, by omega, hR2, by omega, hG2⟩
end Go.Proofs.Ytdaahcenplepjaa
