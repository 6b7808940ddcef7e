/- Draws of texts and numbers, for seats without marks: a text that is drawn does not begin with the letter n. -/
import Derived.Test.YtnpkegmkmhambaaRx
import Derived.Test.YtnpkegmkmhambaaDec
import Derived.Deep.AppendLies
import Derived.Maps.AppendAt
namespace Go.Proofs.Ytnpkegmkmhambaa
open Go.RowKit

/-- all bytes of t are bytes of s -/
def fromB (s t : ByteArray) : Prop := ∀ c ∈ t.data.toList, c ∈ s.data.toList
theorem fromB_nil (s : ByteArray) : fromB s ByteArray.empty := fun c hc => by cases hc
theorem fromB_app {s a b : ByteArray} (ha : fromB s a) (hb : fromB s b) : fromB s (a ++ b) := by
  intro c hc
  rw [show (a ++ b).data.toList = a.data.toList ++ b.data.toList by simp, List.mem_append] at hc
  rcases hc with h | h
  · exact ha c h
  · exact hb c h
/-- a text does not begin with the letter n -/
def notN (s : ByteArray) : Prop := s.data.toList.head? ≠ some 110
theorem twice (S k : Nat) : S * k = (S + S) * (k / 2) + S * (k % 2) := by
  have h := Nat.div_add_mod k 2
  conv => lhs; rw [← h]
  rw [Nat.mul_add, ← Nat.mul_assoc, Nat.mul_comm S 2, Nat.two_mul]
set_option maxHeartbeats 2000000 in
theorem many_any (s : ByteArray) (n : Nat) (w : World) (h : s.size * n ≤ 1000) (hs : s.size ≤ 1000) (hn : n ≤ 1000) :
    Calls Try.prog 32 #[.string s, .int .i64 (n : Int)] w fun e w' => ∃ t : ByteArray, e = .returned (.string t) ∧ t.size = s.size * n ∧ fromB s t ∧ w = w' := by
  go_enter Try.func32, Try.ntmps32
  go_wp2_with fail
  go_loop [0, 1, 5] (fun a b c => ∃ (S T : ByteArray) (k : Nat), a = .string S ∧ b = .int .i64 (k : Int) ∧ c = .string T ∧ k ≤ 1000 ∧ S.size ≤ 2000 ∧ S.size * k + T.size = s.size * n ∧ fromB s S ∧ fromB s T) (fun _ b _ => (intOf b).toNat)
  case atStart => exact ⟨s, ByteArray.empty, n, rfl, rfl, rfl, hn, by omega, by simp, fun _ h => h, fromB_nil s⟩
  case round =>
    obtain ⟨S, T, k, rfl, rfl, rfl, hk, hS, hsum, hfS, hfT⟩ := hrel
    have HSUM : Hid (S.size * k + T.size = s.size * n) := hsum
    have hT : T.size ≤ 1000 := by have := Nat.zero_le (S.size * k); omega
    by_cases h0 : 0 < k
    · have hS1 : S.size ≤ 1000 := by have := Nat.le_mul_of_pos_right S.size h0; omega
      have htw := twice S.size k
      have HTW : Hid (S.size * k = (S.size + S.size) * (k / 2) + S.size * (k % 2)) := htw
      clear hsum htw
      rcases (show k % 2 = 0 ∨ k % 2 = 1 by omega) with hm | hm
      · have hm' : ((k : Int) % 2 == 1) = false := beq_eq_false_iff_ne.2 (by omega)
        have HM : Hid (k % 2 = 0) := hm
        clear hm
        go_wp2_with fail
        go_round
        case rel => exact ⟨S ++ S, T, k / 2, rfl, by go_num, rfl, by omega, by rw [ByteArray.size_append]; omega, by
          rw [ByteArray.size_append, ← HSUM.out, HTW.out, HM.out]; omega, fromB_app hfS hfS, hfT⟩
        case measure => simp [intOf]; omega
      · have hm' : ((k : Int) % 2 == 1) = true := beq_iff_eq.2 (by omega)
        have HM : Hid (k % 2 = 1) := hm
        clear hm
        go_wp2_with fail
        go_round
        case rel => exact ⟨S ++ S, T ++ S, k / 2, rfl, by go_num, rfl, by omega, by rw [ByteArray.size_append]; omega, by
          rw [ByteArray.size_append, ByteArray.size_append, ← HSUM.out, HTW.out, HM.out]; omega, fromB_app hfS hfS, fromB_app hfT hfS⟩
        case measure => simp [intOf]; omega
    · obtain rfl : k = 0 := by omega
      go_wp2_with fail
      go_ret
      exact ⟨T, rfl, by omega, hfT, rfl⟩
def words (t : ByteArray) : List ByteArray := [⟨#[]⟩, ⟨#[97]⟩, ⟨#[98]⟩, ⟨#[99]⟩, ⟨#[53]⟩, ⟨#[45, 51]⟩, ⟨#[104, 101, 108, 108, 111]⟩, ⟨#[13, 10]⟩, ⟨#[255]⟩, t, ⟨#[57, 57, 57, 57, 57, 57, 57, 57, 57]⟩]
theorem words_short {t : ByteArray} (ht : t.size ≤ 41) : ∀ s ∈ words t, s.size ≤ 41 := by
  intro s hs
  simp only [words, List.mem_cons, List.not_mem_nil, or_false] at hs
  rcases hs with h | h | h | h | h | h | h | h | h | h | h
  all_goals subst h
  all_goals first | exact ht | decide
theorem words_notN {t : ByteArray} (ht : fromB ⟨#[120]⟩ t) : ∀ s ∈ words t, notN s := by
  intro s hs
  simp only [words, List.mem_cons, List.not_mem_nil, or_false] at hs
  rcases hs with h | h | h | h | h | h | h | h | h | h | h
  all_goals subst h
  all_goals first | (unfold notN; decide) | skip
  unfold notN
  intro e
  have := ht 110 (List.mem_of_mem_head? e)
  simp at this
set_option maxHeartbeats 2000000 in
theorem text_any (r p : Nat) (v : Value) (zs : List Int) (w : World) (h : RdAt w r v zs p) (hp : p ≤ 100000) :
    Calls Try.prog 31 #[.pointer (some ⟨r, 0, none⟩)] w fun e w' => ∃ s, e = .returned (.string s) ∧ s.size ≤ 41 ∧ notN s ∧ RdAt w' r v zs (p + 1) ∧ w.grownBy w' (some r) := by
  have hrl := rd_lt h
  go_enter Try.func31, Try.ntmps31
  go_wp2_with fail
  refine (many_any ⟨#[120]⟩ 40 _ (by decide) (by decide) (by decide)).mono ?_
  rintro e w1 ⟨t, rfl, ht, hft, rfl⟩
  have ht' : t.size = 40 := ht
  go_wp2_with fail
  have hB := (Below.refl w.heap.size w).alloc (Nat.le_refl _) (.cells ((words t).map Value.string).toArray 9)
  have ho : Owns (w.alloc (.cells ((words t).map Value.string).toArray 9)) w.heap.size (.slice (some ⟨w.heap.size, 0, none⟩) 11 11) (words t) := World.ownsRow_lit w ((words t).map Value.string).toArray 11 (Nat.le_refl _) (by decide) rfl
  refine (of_any r p v zs _ (words t) w.heap.size (w.alloc (.cells ((words t).map Value.string).toArray 9)) (rd_grown h hB) hp ho hrl (Nat.succ_pos _) (show 11 ≤ 1000 by decide)).mono ?_
  rintro e w2 ⟨s, rfl, hmem, hR2, hg2⟩
  have hs : s.size ≤ 41 := words_short (by omega) s hmem
  have hnn : notN s := words_notN hft s hmem
  have hg3 := grown_trans2 (World.grownBy_alloc w (.cells ((words t).map Value.string).toArray 9) (some r)) hg2
  clear hg2 ho hB
  go_wp2_with fail
  go_ret
  exact ⟨s, rfl, hs, hnn, hR2, hg3⟩
set_option maxHeartbeats 2000000 in
theorem one_any (r p : Nat) (v : Value) (zs : List Int) (l : List Int) (g cap base : Nat) (w : World) (h : RdAt w r v zs p) (hp : p ≤ 100000) (ho : w.ownsRow base 3 1 (.slice (some ⟨g, 0, none⟩) l.length cap) l.length (l.map (Value.int .i64))) (hr : r < base) (h0 : 0 < l.length) (hl : l.length ≤ 1000) :
    Calls Try.prog 19 #[.pointer (some ⟨r, 0, none⟩), .slice (some ⟨g, 0, none⟩) l.length cap] w fun e w' => ∃ s, e = .returned (.int .i64 s) ∧ s ∈ l ∧ RdAt w' r v zs (p + 1) ∧ w.grownBy w' (some r) := by
  have hg := (ho.lt g rfl).1
  go_enter Try.func19, Try.ntmps19
  go_wp2_with fail
  refine (pick_any r p v zs _ _ h hp (by omega) (by omega)).mono ?_
  rintro e w1 ⟨x, rfl, hx0, hx1, hR1, hg1⟩
  obtain ⟨k, rfl⟩ := Int.eq_ofNat_of_zero_le hx0
  have hk : k < l.length := by omega
  have ho1 := ho.kept hg1 (.inr (by simp [Value.ownBlock]; omega))
  have hcell : w1.cell? ⟨g, k, none⟩ = some (.int .i64 (l[k])) := by
    rw [World.ownsRow.cellAt ho1 k (by omega), List.getElem?_map, List.getElem?_eq_getElem hk]; rfl
  go_wp2_with fail
  go_ret
  exact ⟨_, rfl, List.getElem_mem hk, hR1, hg1⟩
def placesL : List Int := [0, 1, 2, -1, -2, 5, -9, 100, 1000000000, 1000000001]
set_option maxHeartbeats 2000000 in
theorem place_any (r p : Nat) (v : Value) (zs : List Int) (w : World) (h : RdAt w r v zs p) (hp : p ≤ 100000) :
    Calls Try.prog 33 #[.pointer (some ⟨r, 0, none⟩)] w fun e w' => ∃ s : Int, e = .returned (.int .i64 s) ∧ -9 ≤ s ∧ s ≤ 1000000001 ∧ RdAt w' r v zs (p + 1) ∧ w.grownBy w' (some r) := by
  have hrl := rd_lt h
  have hB := (Below.refl w.heap.size w).alloc (Nat.le_refl _) (.cells (placesL.map (Value.int .i64)).toArray 3)
  have ho : (w.alloc (.cells (placesL.map (Value.int .i64)).toArray 3)).ownsRow w.heap.size 3 1 (.slice (some ⟨w.heap.size, 0, none⟩) 10 10) 10 (placesL.map (Value.int .i64)) := World.ownsRow_lit w (placesL.map (Value.int .i64)).toArray 10 (Nat.le_refl _) (by decide) rfl
  go_enter Try.func33, Try.ntmps33
  go_wp2_with fail
  refine (one_any r p v zs placesL w.heap.size 10 w.heap.size (w.alloc (.cells (placesL.map (Value.int .i64)).toArray 3)) (rd_grown h hB) hp ho hrl (by decide) (by decide)).mono ?_
  rintro e w2 ⟨s, rfl, hmem, hR2, hg2⟩
  have hs : -9 ≤ s ∧ s ≤ 1000000001 := by
    simp only [placesL, List.mem_cons, List.not_mem_nil, or_false] at hmem
    omega
  have hg3 := grown_trans2 (World.grownBy_alloc w (.cells (placesL.map (Value.int .i64)).toArray 3) (some r)) hg2
  clear hg2 ho hB
  go_wp2_with fail
  go_ret
  exact ⟨s, rfl, hs.1, hs.2, hR2, hg3⟩
end Go.Proofs.Ytnpkegmkmhambaa
