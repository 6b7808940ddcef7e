/- Draws of texts and of lists of texts: whatever comes is short. -/
import Derived.Test.YtfcnhdaefleelaaDraw
import Derived.Deep.AppendLies
import Derived.Maps.AppendAt
namespace Go.Proofs.Ytfcnhdaefleelaa
open Go.RowKit

theorem twice (S k : Nat) : S * k = (S + S) * (k / 2) + S * (k % 2) := by
  have h := Nat.div_add_mod k 2
  conv => lhs; rw [← h]
  rw [Nat.mul_add, ← Nat.mul_assoc, Nat.mul_comm S 2, Nat.two_mul]

set_option maxHeartbeats 2000000 in
theorem many_any (s : ByteArray) (n : Nat) (w : World) (h : s.size * n ≤ 1000) (hs : s.size ≤ 1000) (hn : n ≤ 1000) :
    Calls Try.prog 44 #[.string s, .int .i64 (n : Int)] w fun e w' => ∃ t : ByteArray, e = .returned (.string t) ∧ t.size = s.size * n ∧ w = w' := by
  go_enter Try.func44, Try.ntmps44
  go_wp2_with fail
  go_loop [0, 1, 5] (fun a b c => ∃ (S T : ByteArray) (k : Nat), a = .string S ∧ b = .int .i64 (k : Int) ∧ c = .string T ∧ k ≤ 1000 ∧ S.size ≤ 2000 ∧ S.size * k + T.size = s.size * n) (fun _ b _ => (intOf b).toNat)
  case atStart => exact ⟨s, ByteArray.empty, n, rfl, rfl, rfl, hn, by omega, by simp⟩
  case round =>
    obtain ⟨S, T, k, rfl, rfl, rfl, hk, hS, hsum⟩ := hrel
    have HSUM : Hid (S.size * k + T.size = s.size * n) := hsum
    have hT : T.size ≤ 1000 := by have := Nat.zero_le (S.size * k); omega
    by_cases h0 : 0 < k
    · have hS1 : S.size ≤ 1000 := by have := Nat.le_mul_of_pos_right S.size h0; omega
      have htw := twice S.size k
      have HTW : Hid (S.size * k = (S.size + S.size) * (k / 2) + S.size * (k % 2)) := htw
      clear hsum htw
      rcases (show k % 2 = 0 ∨ k % 2 = 1 by omega) with hm | hm
      · have hm' : ((k : Int) % 2 == 1) = false := beq_eq_false_iff_ne.2 (by omega)
        have HM : Hid (k % 2 = 0) := hm
        clear hm
        go_wp2_with fail
        go_round
        case rel => exact ⟨S ++ S, T, k / 2, rfl, by go_num, rfl, by omega, by rw [ByteArray.size_append]; omega, by
          rw [ByteArray.size_append, ← HSUM.out, HTW.out, HM.out]; omega⟩
        case measure => simp [intOf]; omega
      · have hm' : ((k : Int) % 2 == 1) = true := beq_iff_eq.2 (by omega)
        have HM : Hid (k % 2 = 1) := hm
        clear hm
        go_wp2_with fail
        go_round
        case rel => exact ⟨S ++ S, T ++ S, k / 2, rfl, by go_num, rfl, by omega, by rw [ByteArray.size_append]; omega, by
          rw [ByteArray.size_append, ByteArray.size_append, ← HSUM.out, HTW.out, HM.out]; omega⟩
        case measure => simp [intOf]; omega
    · obtain rfl : k = 0 := by omega
      go_wp2_with fail
      go_ret
      exact ⟨T, rfl, by omega, rfl⟩

theorem rd_grown {w w' : World} {r p : Nat} {v : Value} {zs : List Int} (h : RdAt w r v zs p) (hb : Below w.heap.size w w') : RdAt w' r v zs p := rd_kept h hb (rd_lt h)

set_option maxHeartbeats 2000000 in
theorem of_any (r p : Nat) (v : Value) (zs : List Int) (u : Value) (l : List ByteArray) (base : Nat) (w : World) (h : RdAt w r v zs p) (hp : p ≤ 100000) (ho : Owns w base u l) (hr : r < base) (h0 : 0 < l.length) (hl : l.length ≤ 1000) :
    Calls Try.prog 27 #[.pointer (some ⟨r, 0, none⟩), u] w fun e w' => ∃ s, e = .returned (.string s) ∧ s ∈ l ∧ RdAt w' r v zs (p + 1) ∧ w.grownBy w' (some r) := by
  obtain ⟨g, cap, rfl⟩ : ∃ g cap, u = .slice (some ⟨g, 0, none⟩) l.length cap := by
    rcases owns_form ho with ⟨rfl, _⟩ | ⟨_, g, c, rfl⟩
    · simp at h0
    · exact ⟨g, c, rfl⟩
  have hg := (ho.lt g rfl).1
  go_enter Try.func27, Try.ntmps27
  go_wp2_with fail
  refine (pick_any r p v zs _ _ h hp (by omega) (by omega)).mono ?_
  rintro e w1 ⟨x, rfl, hx0, hx1, hR1, hg1⟩
  obtain ⟨k, rfl⟩ := Int.eq_ofNat_of_zero_le hx0
  have hk : k < l.length := by omega
  have ho1 : Owns w1 base (.slice (some ⟨g, 0, none⟩) l.length cap) l := World.ownsRow.kept ho hg1 (.inr (by simp [Value.ownBlock]; omega))
  have hcell : w1.cell? ⟨g, k, none⟩ = some (.string (at_ l k)) := by
    rw [World.ownsRow.cellAt ho1 k (by omega), List.getElem?_map, List.getElem?_eq_getElem hk, at_lt hk]; rfl
  go_wp2_with fail
  go_ret
  exact ⟨_, rfl, by rw [at_lt hk]; exact List.getElem_mem hk, hR1, hg1⟩

def words (t : ByteArray) : List ByteArray := [⟨#[]⟩, ⟨#[97]⟩, ⟨#[98]⟩, ⟨#[99]⟩, ⟨#[53]⟩, ⟨#[45, 51]⟩, ⟨#[104, 101, 108, 108, 111]⟩, ⟨#[13, 10]⟩, ⟨#[255]⟩, t, ⟨#[57, 57, 57, 57, 57, 57, 57, 57, 57]⟩]
theorem words_short {t : ByteArray} (ht : t.size ≤ 41) : ∀ s ∈ words t, s.size ≤ 41 := by
  intro s hs
  simp only [words, List.mem_cons, List.not_mem_nil, or_false] at hs
  rcases hs with h | h | h | h | h | h | h | h | h | h | h
  all_goals subst h
  all_goals first | exact ht | decide
theorem own_ne_right {w : World} {base r : Nat} {v : Value} {l : List ByteArray} (h : Owns w base v l) (hr : r < base) : v.ownBlock = none ∨ v.ownBlock ≠ some r := by
  cases hv : v.ownBlock with
  | none => exact .inl rfl
  | some k => right; intro e; simp only [Option.some.injEq] at e; have := (h.lt k hv).1; omega
theorem grown_base {w a b : World} {r : Option Nat} (h : w.grownBy a r) (hb : Below w.heap.size a b) : w.grownBy b r :=
  ⟨hb.os.trans h.os, hb.tape.trans h.tape, hb.output.trans h.output, Nat.le_trans h.size hb.size, fun k hk hr => (hb.block k hk).trans (h.block k hk hr)⟩

set_option maxHeartbeats 2000000 in
theorem text_any (r p : Nat) (v : Value) (zs : List Int) (w : World) (h : RdAt w r v zs p) (hp : p ≤ 100000) :
    Calls Try.prog 41 #[.pointer (some ⟨r, 0, none⟩)] w fun e w' => ∃ s, e = .returned (.string s) ∧ s.size ≤ 41 ∧ RdAt w' r v zs (p + 1) ∧ w.grownBy w' (some r) := by
  have hrl := rd_lt h
  go_enter Try.func41, Try.ntmps41
  go_wp2_with fail
  refine (many_any ⟨#[120]⟩ 40 _ (by decide) (by decide) (by decide)).mono ?_
  rintro e w1 ⟨t, rfl, ht, rfl⟩
  have ht' : t.size = 40 := ht
  go_wp2_with fail
  have hB := (Below.refl w.heap.size w).alloc (Nat.le_refl _) (.cells ((words t).map Value.string).toArray 9)
  have ho : Owns (w.alloc (.cells ((words t).map Value.string).toArray 9)) w.heap.size (.slice (some ⟨w.heap.size, 0, none⟩) 11 11) (words t) := World.ownsRow_lit w ((words t).map Value.string).toArray 11 (Nat.le_refl _) (by decide) rfl
  refine (of_any r p v zs _ (words t) w.heap.size (w.alloc (.cells ((words t).map Value.string).toArray 9)) (rd_grown h hB) hp ho hrl (Nat.succ_pos _) (show 11 ≤ 1000 by decide)).mono ?_
  rintro e w2 ⟨s, rfl, hmem, hR2, hg2⟩
  have hs : s.size ≤ 41 := words_short (by omega) s hmem
  have hg3 := grown_trans2 (World.grownBy_alloc w (.cells ((words t).map Value.string).toArray 9) (some r)) hg2
  clear hg2 ho hB
  go_wp2_with fail
  go_ret
  exact ⟨s, rfl, hs, hR2, hg3⟩

set_option maxHeartbeats 4000000 in
theorem texts_draw (r p : Nat) (v : Value) (zs : List Int) (most : Nat) (w : World) (h : RdAt w r v zs p) (hp : p ≤ 90000) (hm : most ≤ 100) :
    Calls Try.prog 43 #[.pointer (some ⟨r, 0, none⟩), .int .i64 (most : Int)] w fun e w' => ∃ u l q, e = .returned u ∧ Owns w' w.heap.size u l ∧ l.length ≤ most ∧ (∀ s ∈ l, s.size ≤ 41) ∧ RdAt w' r v zs q ∧ q ≤ p + 1 + most ∧ w.grownBy w' (some r) := by
  obtain ⟨i0, hi, hz0, hz1, hz2⟩ := info_parts infoS
  have hrl := rd_lt h
  have hB0 := (Below.refl w.heap.size w).alloc (Nat.le_refl _) (.cells #[] 9)
  have ho0 : Owns (w.alloc (.cells #[] 9)) w.heap.size (.slice (some ⟨w.heap.size, 0, none⟩) 0 0) [] := World.ownsRow_lit w #[] 0 (Nat.le_refl _) (by simp) rfl
  go_enter Try.func43, Try.ntmps43
  go_wp2_with fail
  refine (pick_any r p v zs _ _ (rd_grown h hB0) (by omega) (by omega) (by omega)).mono ?_
  rintro e w1 ⟨x, rfl, hx0, hx1, hR1, hg1⟩
  obtain ⟨n, rfl⟩ := Int.eq_ofNat_of_zero_le hx0
  have ho1 : Owns w1 w.heap.size (.slice (some ⟨w.heap.size, 0, none⟩) 0 0) [] := World.ownsRow.kept ho0 hg1 (.inr (by simp [Value.ownBlock]; omega))
  have hG1 := grown_trans2 (World.grownBy_alloc w (.cells #[] 9) (some r)) hg1
  clear ho0 hB0 hg1 h
  go_wp2_with fail
  go_loopw [5, 6] (fun u i wr => ∃ (k : Nat) (l : List ByteArray) (q : Nat), i = .int .i64 (k : Int) ∧ Owns wr w.heap.size u l ∧ l.length + k ≤ most ∧ (∀ s ∈ l, s.size ≤ 41) ∧ RdAt wr r v zs q ∧ q ≤ p + 1 + l.length ∧ w.grownBy wr (some r)) (fun _ i _ => (intOf i).toNat)
  case atStart => exact ⟨n, [], p + 1, rfl, ho1, by simp; omega, by simp, hR1, by simp, hG1⟩
  case round =>
    obtain ⟨k, l, q, rfl, ho, hlk, hsh, hR, hq, hG⟩ := hrel
    clear ho1 hR1 hG1
    have HSH : Hid (∀ s ∈ l, s.size ≤ 41) := hsh
    clear hsh
    by_cases h0 : 0 < k
    · obtain ⟨j, rfl⟩ : ∃ j, k = j + 1 := ⟨k - 1, by omega⟩
      go_wp2_with fail
      refine (text_any r q v zs _ hR (by omega)).mono ?_
      rintro e w2 ⟨s, rfl, hs, hR2, hg2⟩
      have ho2 : Owns w2 w.heap.size _ l := World.ownsRow.kept ho hg2 (own_ne_right ho hrl)
      have hG2 := grown_trans2 hG hg2
      have hG2s := hG2.size
      clear ho hR hg2
      unfold Owns at ho2
      go_wp2_with (at_builtin; refine wpList_append_own _ rfl (.tmp 16) (.tmp 19) 23 rfl w.heap.size 9 i0 (.string ByteArray.empty) 1 16 Try.underlying23 hi hz0 hz1 hz2 rfl (by decide) _ _ _ rfl (ho2.alloc _) ⟨w2.heap.size, 0, none⟩ 1 1 [.string s] rfl rfl (cell_one_new _ _ _) (strs_one [s]) (by unfold maxLen; omega) (by omega) (by simp; omega) ?_)
      intro x2 w3 hown3 hgrow3 _
      have ho3 : Owns w3 w.heap.size x2 (l ++ [s]) := by unfold Owns; rw [List.length_append, List.map_append]; exact hown3
      have hB3 : Below w.heap.size w2 w3 := ((Below.refl _ w2).alloc hG2s _).grown hgrow3 (by simp; omega) (fun i hi => (ho2.lt i hi).1)
      have hR3 := rd_kept hR2 hB3 hrl
      have hG3 := grown_base hG2 hB3
      clear hown3 hgrow3 ho2 hB3 hR2 hG2
      go_wp2_with fail
      go_roundw
      case rel => exact ⟨j, l ++ [s], q + 1, by go_num, ho3, by simp; omega, by
        intro t ht; rw [List.mem_append] at ht; rcases ht with ht | ht
        · exact HSH.out t ht
        · rw [List.mem_singleton] at ht; subst ht; exact hs, hR3, by simp; omega, hG3⟩
      case measure => simp [intOf]
    · obtain rfl : k = 0 := by omega
      go_wp2_with fail
      go_ret
      exact ⟨_, l, q, rfl, ho, by omega, HSH.out, hR, by omega, hG⟩

theorem grown_trans3 {w a b : World} {r : Nat} (h : w.grownBy a (some r)) (k : a.grownBy b (some r)) : w.grownBy b (some r) :=
  ⟨k.os.trans h.os, k.tape.trans h.tape, k.output.trans h.output, Nat.le_trans h.size k.size, fun i hi hr => (k.block i (Nat.lt_of_lt_of_le hi h.size) hr).trans (h.block i hi hr)⟩
def lenOf : Value → Nat | .slice _ n _ => n | _ => 0

set_option maxRecDepth 100000 in
set_option maxHeartbeats 8000000 in
theorem anyTexts_draw (r p : Nat) (v : Value) (zs : List Int) (w : World) (h : RdAt w r v zs p) (hp : p ≤ 80000) :
    Calls Try.prog 19 #[.pointer (some ⟨r, 0, none⟩)] w fun e w' => ∃ u l q, e = .returned u ∧ Owns w' w.heap.size u l ∧ l.length ≤ 20 ∧ (∀ s ∈ l, s.size ≤ 41) ∧ RdAt w' r v zs q ∧ q ≤ p + 100 ∧ w.grownBy w' (some r) := by
  obtain ⟨i0, hi, hz0, hz1, hz2⟩ := info_parts infoS
  have hrl := rd_lt h
  go_enter Try.func19, Try.ntmps19
  go_wp2_with fail
  refine (texts_draw r p v zs 6 _ h (by omega) (by omega)).mono ?_
  rintro e w1 ⟨u1, l1, q1, rfl, ho1, hl1, hs1, hR1, hq1, hG1⟩
  have HS1 : Hid (∀ s ∈ l1, s.size ≤ 41) := hs1
  clear h hs1
  go_wp2_with fail
  refine (pick_any r q1 v zs _ _ hR1 (by omega) (by omega) (by omega)).mono ?_
  rintro e w2 ⟨x, rfl, hx0, hx1, hR2, hg2⟩
  have ho2 : Owns w2 w.heap.size u1 l1 := World.ownsRow.kept ho1 hg2 (own_ne_right ho1 hrl)
  have hG2 := grown_trans3 hG1 hg2
  have hG2s := hG2.size
  clear ho1 hR1 hG1 hg2
  have app : ∀ (W : World) (u : Value) (l : List ByteArray) (s : ByteArray) (x2 : Value) (w3 : World), W.ownsRow w.heap.size 9 1 u l.length (l.map Value.string) → w.heap.size ≤ W.heap.size → w.grownBy W (some r) → (W.alloc (.cells #[.string s] 9)).grownBy w3 u.ownBlock → w3.ownsRow w.heap.size 9 1 x2 (l.length + 1) (l.map Value.string ++ [.string s]) → Owns w3 w.heap.size x2 (l ++ [s]) ∧ Below w.heap.size W w3 ∧ w.grownBy w3 (some r) := by
    intro W u l s x2 w3 ho hs hG hgr hown
    have hB3 : Below w.heap.size W w3 := ((Below.refl _ W).alloc hs _).grown hgr (by simp; omega) (fun i hi => (ho.lt i hi).1)
    exact ⟨by unfold Owns; rw [List.length_append, List.map_append]; exact hown, hB3, grown_base hG hB3⟩
  have HAPP : Hid (∀ (W : World) (u : Value) (l : List ByteArray) (s : ByteArray) (x2 : Value) (w3 : World), W.ownsRow w.heap.size 9 1 u l.length (l.map Value.string) → w.heap.size ≤ W.heap.size → w.grownBy W (some r) → (W.alloc (.cells #[.string s] 9)).grownBy w3 u.ownBlock → w3.ownsRow w.heap.size 9 1 x2 (l.length + 1) (l.map Value.string ++ [.string s]) → Owns w3 w.heap.size x2 (l ++ [s]) ∧ Below w.heap.size W w3 ∧ w.grownBy w3 (some r)) := app
  clear app
  rcases (show x = 0 ∨ x = 1 ∨ (x ≠ 0 ∧ x ≠ 1) by omega) with rfl | rfl | ⟨hx2, hx3⟩
  · -- a text that is too long
    go_wp2_with fail
    refine (many_any ⟨#[121]⟩ 41 _ (by decide) (by decide) (by decide)).mono ?_
    rintro e w' ⟨t, rfl, ht, rfl⟩
    have ht' : t.size = 41 := ht
    have HT : Hid (t.size = 41) := ht'
    clear ht ht'
    unfold Owns at ho2
    go_wp2_with (at_builtin; refine wpList_append_own _ rfl (.tmp 10) (.tmp 12) 23 rfl w.heap.size 9 i0 (.string ByteArray.empty) 1 16 Try.underlying23 hi hz0 hz1 hz2 rfl (by decide) _ _ _ rfl (ho2.alloc _) ⟨w2.heap.size, 0, none⟩ 1 1 [.string t] rfl rfl (cell_one_new _ _ _) (strs_one [t]) (by unfold maxLen; omega) (by omega) (by simp; omega) ?_)
    intro x2 w3 hown3 hgrow3 _
    obtain ⟨ho3, hB3, hG3⟩ := HAPP.out w2 u1 l1 t x2 w3 ho2 hG2s hG2 hgrow3 hown3
    have hR3 := rd_kept hR2 hB3 hrl
    clear hown3 hgrow3 ho2 hB3 hR2 hG2
    go_wp2_with fail
    go_ret
    exact ⟨_, l1 ++ [t], q1 + 1, rfl, ho3, by simp; omega, by
      intro s hs; rw [List.mem_append] at hs; rcases hs with hs | hs
      · exact HS1.out s hs
      · rw [List.mem_singleton] at hs; subst hs; rw [HT.out]; omega, hR3, by omega, hG3⟩
  · -- as many as may be, or one more
    go_wp2_with fail
    go_loopw [3] (fun u wr => ∃ (l : List ByteArray) (q : Nat), Owns wr w.heap.size u l ∧ l.length ≤ 17 ∧ (∀ s ∈ l, s.size ≤ 41) ∧ RdAt wr r v zs q ∧ q ≤ q1 + 1 + l.length ∧ w.grownBy wr (some r)) (fun u _ => 20 - lenOf u)
    case atStart => exact ⟨l1, q1 + 1, ho2, by omega, HS1.out, hR2, by omega, hG2⟩
    case round =>
      obtain ⟨l, q, ho, hl, hsh, hR, hq, hG⟩ := hrel
      have HSH : Hid (∀ s ∈ l, s.size ≤ 41) := hsh
      clear hsh ho2 hR2 hG2 hG2s
      obtain ⟨ao, cap, hu⟩ := reads_shape (owns_reads ho)
      subst hu
      go_wp2_with fail
      refine (pick_any r q v zs _ _ hR (by omega) (by omega) (by omega)).mono ?_
      rintro e w3 ⟨y, rfl, hy0, hy1, hR3, hg3⟩
      have ho3 : Owns w3 w.heap.size (.slice ao l.length cap) l := World.ownsRow.kept ho hg3 (own_ne_right ho hrl)
      have hG3 := grown_trans3 hG hg3
      clear ho hR hG hg3
      by_cases hlt : (l.length : Int) < 16 + y
      · go_wp2_with fail
        refine (l1Dec_any 1 l.length _ (by omega) (by omega)).mono ?_
        rintro e w4 ⟨rfl, hb4⟩
        have ho4 := owns_kept ho3 hb4
        have hR4 := rd_grown hR3 hb4
        have hG4 : w.grownBy w4 (some r) := grown_base hG3 (hb4.mono hG3.size)
        have hG4s := hG4.size
        have hds := decS_size 1 l.length
        clear ho3 hR3 hG3 hb4
        obtain ⟨d, hd⟩ : ∃ d, decS 1 l.length = d := ⟨_, rfl⟩
        rw [hd] at hds ⊢
        clear hd
        unfold Owns at ho4
        have hsz2 : (⟨#[110]⟩ ++ d : ByteArray).size ≤ 41 := by rw [ByteArray.size_append]; have : (⟨#[110]⟩ : ByteArray).size = 1 := rfl; omega
        have HZ : Hid ((⟨#[110]⟩ ++ d : ByteArray).size ≤ 41) := hsz2
        clear hsz2
        go_wp2_with (at_builtin; refine wpList_append_own _ rfl (.tmp 22) (.tmp 27) 23 rfl w.heap.size 9 i0 (.string ByteArray.empty) 1 16 Try.underlying23 hi hz0 hz1 hz2 rfl (by decide) _ _ _ rfl (ho4.alloc _) ⟨w4.heap.size, 0, none⟩ 1 1 _ rfl rfl (cell_one_new _ _ _) (strs_one [_]) (by unfold maxLen; omega) (by omega) (by simp; omega) ?_)
        intro x5 w5 hown5 hgrow5 _
        obtain ⟨ho5, hB5, hG5⟩ := HAPP.out w4 _ l _ x5 w5 ho4 hG4s hG4 hgrow5 hown5
        have hR5 := rd_kept hR4 hB5 hrl
        have hlen5 : lenOf x5 = l.length + 1 := by
          obtain ⟨a5, c5, h5⟩ := reads_shape (owns_reads ho5); rw [h5]; simp [lenOf]
        clear hown5 hgrow5 ho4 hB5 hR4 hG4
        go_wp2_with fail
        go_roundw
        case rel => exact ⟨l ++ [⟨#[110]⟩ ++ d], q + 1, ho5, by simp; omega, by
          intro s hs; rw [List.mem_append] at hs; rcases hs with hs | hs
          · exact HSH.out s hs
          · rw [List.mem_singleton] at hs; subst hs; exact HZ.out, hR5, by simp; omega, hG5⟩
        case measure => show 20 - lenOf x5 < 20 - l.length; omega
      · go_wp2_with fail
        go_ret
        exact ⟨_, l, q + 1, rfl, ho3, by omega, HSH.out, hR3, by omega, hG3⟩
  · have hx2' : (x == 0) = false := beq_eq_false_iff_ne.2 hx2
    have hx3' : (x == 1) = false := beq_eq_false_iff_ne.2 hx3
    clear hx2 hx3
    go_wp2_with fail
    go_ret
    exact ⟨_, l1, q1 + 1, rfl, ho2, by omega, HS1.out, hR2, by omega, hG2⟩
end Go.Proofs.Ytfcnhdaefleelaa
