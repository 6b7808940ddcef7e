/- Draws of orders: whatever comes is short. -/
import Derived.Test.YtfoflnolmlgnfaaDoorDrX
import Derived.Laws.AppendOwnNone
namespace Go.Proofs.YtfoflnolmlgnfaaDoor
open Go.RowKit

theorem infoO : (Tryd.prog.info? 9).map (fun i => (i.zero, i.size, i.bytes)) = some (some (.string ByteArray.empty), 1, 16) := by kernel_rfl
def allS : List Value → Prop
  | [] => True
  | .string s :: t => s.size ≤ 41 ∧ allS t
  | _ :: _ => False
theorem allS_list : ∀ cs : List Value, allS cs → ∃ l : List ByteArray, cs = l.map Value.string ∧ ∀ s ∈ l, s.size ≤ 41
  | [], _ => ⟨[], rfl, by simp⟩
  | c :: t, h => by
    cases c with
    | string s =>
      obtain ⟨l, rfl, hl⟩ := allS_list t h.2
      exact ⟨s :: l, rfl, by intro x hx; rw [List.mem_cons] at hx; rcases hx with rfl | hx; exact h.1; exact hl x hx⟩
    | _ => exact absurd h (by simp [allS])
theorem allS_mem : ∀ {l : List ByteArray}, allS (l.map Value.string) → ∀ s ∈ l, s.size ≤ 41
  | [], _ => by simp
  | x :: l, h => by
    intro s hs; rw [List.mem_cons] at hs
    rcases hs with rfl | hs
    · exact h.1
    · exact allS_mem h.2 s hs
theorem mem_app {a b : List ByteArray} (ha : ∀ s ∈ a, s.size ≤ 41) (hb : ∀ s ∈ b, s.size ≤ 41) : ∀ s ∈ a ++ b, s.size ≤ 41 := by
  intro s hs; rw [List.mem_append] at hs; rcases hs with h | h; exact ha s h; exact hb s h
theorem own_litL (w : World) (base : Nat) (l : List ByteArray) (hb : base ≤ w.heap.size) (hl : l.length ≤ 100 := by simp) : Owns (w.alloc (.cells (l.map Value.string).toArray 9)) base (.slice (some ⟨w.heap.size, 0, none⟩) l.length l.length) l := by
  have := World.ownsRow_lit w (base := base) (e := 9) (size := 1) (l.map Value.string).toArray l.length hb (by unfold maxLen; omega) (by simp)
  unfold Owns; simpa using this
theorem strs_allO (l : List ByteArray) : ∀ u ∈ l.map Value.string, u.oneCell' = true := by
  intro u hu; rw [List.mem_map] at hu; obtain ⟨s, _, rfl⟩ := hu; rfl
theorem of_cells (r p : Nat) (v : Value) (zs : List Int) (cs : Array Value) (n : Nat) (w : World) (h : RdAt w r v zs p) (hp : p ≤ 90000) (hn : cs.size = n) (h0 : 0 < n) (h1 : n ≤ 100) (hcs : allS cs.toList) :
    Calls Tryd.prog 45 #[.pointer (some ⟨r, 0, none⟩), .slice (some ⟨w.heap.size, 0, none⟩) n n] (w.alloc (.cells cs 9)) fun e w' => ∃ s, e = .returned (.string s) ∧ s.size ≤ 41 ∧ RdAt w' r v zs (p + 1) ∧ w.grownBy w' (some r) := by
  obtain ⟨l, hl, hs⟩ := allS_list _ hcs
  have hc : cs = (l.map Value.string).toArray := by rw [← hl]
  subst hc
  have hn' : l.length = n := by simpa using hn
  subst hn'
  have hB := (Below.refl w.heap.size w).alloc (Nat.le_refl _) (.cells (l.map Value.string).toArray 9)
  refine (of_any r p v zs _ l w.heap.size _ (rd_grown h hB) (by omega) (own_litL w w.heap.size l (Nat.le_refl _) h1) (rd_lt h) h0 (by omega)).mono ?_
  rintro e w2 ⟨s, rfl, hmem, hR2, hg2⟩
  exact ⟨s, rfl, hs s hmem, hR2, grown_trans2 (World.grownBy_alloc w _ (some r)) hg2⟩
theorem own_forms {w : World} {base : Nat} {v : Value} {l : List ByteArray} (h : Owns w base v l) :
    (l = [] ∧ v = .slice none 0 0) ∨ (∃ g cap, v = .slice (some ⟨g, 0, none⟩) l.length cap ∧ g < w.heap.size ∧ ∀ j u, (l.map Value.string)[j]? = some u → w.cell? ((⟨g, 0, none⟩ : Addr).add j) = some u) := by
  have h' := h
  rcases h.2 with ⟨hv, hn⟩ | ⟨g, cap, cur, hv, hg, hgg, _⟩
  · exact .inl ⟨List.length_eq_zero_iff.1 hn, hv⟩
  · refine .inr ⟨g, cap, hv, (Array.getElem?_eq_some_iff.1 hgg).1, fun j u hj => ?_⟩
    subst hv
    have hlt : j < l.length := by have := (List.getElem?_eq_some_iff.1 hj).1; simpa using this
    have := World.ownsRow.cellAt h' j (by omega)
    rw [hj] at this
    rw [← this]; congr 1; unfold Addr.add; split <;> simp_all
set_option maxHeartbeats 2000000 in
theorem key_any (r p : Nat) (v : Value) (zs : List Int) (w : World) (h : RdAt w r v zs p) (hp : p ≤ 90000) :
    Calls Tryd.prog 59 #[.pointer (some ⟨r, 0, none⟩)] w fun e w' => ∃ s, e = .returned (.string s) ∧ s.size ≤ 41 ∧ RdAt w' r v zs (p + 1) ∧ w.grownBy w' (some r) := by
  go_enter Tryd.func59, Tryd.ntmps59
  go_wp2_with fail
  refine (of_cells r p v zs _ _ w h (by omega) (by rfl) (by decide) (by decide) (by repeat (first | exact trivial | refine ⟨by first | assumption | decide, ?_⟩))).mono ?_
  rintro e w2 ⟨s, rfl, hs, hR2, hg2⟩
  go_wp2_with fail
  go_ret
  exact ⟨s, rfl, hs, hR2, hg2⟩
set_option maxHeartbeats 2000000 in
theorem int_any (r p : Nat) (v : Value) (zs : List Int) (w : World) (h : RdAt w r v zs p) (hp : p ≤ 90000) :
    Calls Tryd.prog 60 #[.pointer (some ⟨r, 0, none⟩)] w fun e w' => ∃ s, e = .returned (.string s) ∧ s.size ≤ 41 ∧ RdAt w' r v zs (p + 1) ∧ w.grownBy w' (some r) := by
  go_enter Tryd.func60, Tryd.ntmps60
  go_wp2_with fail
  refine (of_cells r p v zs _ _ w h (by omega) (by rfl) (by decide) (by decide) (by repeat (first | exact trivial | refine ⟨by first | assumption | decide, ?_⟩))).mono ?_
  rintro e w2 ⟨s, rfl, hs, hR2, hg2⟩
  go_wp2_with fail
  go_ret
  exact ⟨s, rfl, hs, hR2, hg2⟩
set_option maxHeartbeats 4000000 in
theorem texts_draw (r p : Nat) (v : Value) (zs : List Int) (most : Nat) (w : World) (h : RdAt w r v zs p) (hp : p ≤ 90000) (hm : most ≤ 100) :
    Calls Tryd.prog 52 #[.pointer (some ⟨r, 0, none⟩), .int .i64 (most : Int)] w fun e w' => ∃ u l q, e = .returned u ∧ Owns w' w.heap.size u l ∧ l.length ≤ most ∧ (∀ s ∈ l, s.size ≤ 41) ∧ RdAt w' r v zs q ∧ q ≤ p + 1 + most ∧ w.grownBy w' (some r) := by
  obtain ⟨i0, hi, hz0, hz1, hz2⟩ := info_parts infoO
  have hrl := rd_lt h
  have hB0 := (Below.refl w.heap.size w).alloc (Nat.le_refl _) (.cells #[] 9)
  have ho0 : Owns (w.alloc (.cells #[] 9)) w.heap.size (.slice (some ⟨w.heap.size, 0, none⟩) 0 0) [] := World.ownsRow_lit w #[] 0 (Nat.le_refl _) (by simp) rfl
  go_enter Tryd.func52, Tryd.ntmps52
  go_wp2_with fail
  refine (pick_any r p v zs _ _ (rd_grown h hB0) (by omega) (by omega) (by omega)).mono ?_
  rintro e w1 ⟨x, rfl, hx0, hx1, hR1, hg1⟩
  obtain ⟨n, rfl⟩ := Int.eq_ofNat_of_zero_le hx0
  have ho1 : Owns w1 w.heap.size (.slice (some ⟨w.heap.size, 0, none⟩) 0 0) [] := World.ownsRow.kept ho0 hg1 (.inr (by simp [Value.ownBlock]; omega))
  have hG1 := grown_trans2 (World.grownBy_alloc w (.cells #[] 9) (some r)) hg1
  clear ho0 hB0 hg1 h
  go_wp2_with fail
  go_loopw [5, 6] (fun u i wr => ∃ (k : Nat) (l : List ByteArray) (q : Nat), i = .int .i64 (k : Int) ∧ Owns wr w.heap.size u l ∧ l.length + k ≤ most ∧ (∀ s ∈ l, s.size ≤ 41) ∧ RdAt wr r v zs q ∧ q ≤ p + 1 + l.length ∧ w.grownBy wr (some r)) (fun _ i _ => (intOf i).toNat)
  case atStart => exact ⟨n, [], p + 1, rfl, ho1, by simp; omega, by simp, hR1, by simp, hG1⟩
  case round =>
    obtain ⟨k, l, q, rfl, ho, hlk, hsh, hR, hq, hG⟩ := hrel
    clear ho1 hR1 hG1
    have HSH : Hid (∀ s ∈ l, s.size ≤ 41) := hsh
    clear hsh
    by_cases h0 : 0 < k
    · obtain ⟨j, rfl⟩ : ∃ j, k = j + 1 := ⟨k - 1, by omega⟩
      go_wp2_with fail
      refine (text_any r q v zs _ hR (by omega)).mono ?_
      rintro e w2 ⟨s, rfl, hs, _, hR2, hg2⟩
      have ho2 : Owns w2 w.heap.size _ l := World.ownsRow.kept ho hg2 (own_ne_right ho hrl)
      have hG2 := grown_trans2 hG hg2
      have hG2s := hG2.size
      clear ho hR hg2
      unfold Owns at ho2
      go_wp2_with (at_builtin; refine wpList_append_own _ rfl (.tmp 16) (.tmp 19) 23 rfl w.heap.size 9 i0 (.string ByteArray.empty) 1 16 Tryd.underlying23 hi hz0 hz1 hz2 rfl (by decide) _ _ _ rfl (ho2.alloc _) ⟨w2.heap.size, 0, none⟩ 1 1 [.string s] rfl rfl (cell_one_new _ _ _) (strs_allO [s]) (by unfold maxLen; omega) (by omega) (by simp; omega) ?_)
      intro x2 w3 hown3 hgrow3 _
      have ho3 : Owns w3 w.heap.size x2 (l ++ [s]) := by unfold Owns; rw [List.length_append, List.map_append]; exact hown3
      have hB3 : Below w.heap.size w2 w3 := ((Below.refl _ w2).alloc hG2s _).grown hgrow3 (by simp; omega) (fun i hi => (ho2.lt i hi).1)
      have hR3 := rd_kept hR2 hB3 hrl
      have hG3 := grown_base hG2 hB3
      clear hown3 hgrow3 ho2 hB3 hR2 hG2
      go_wp2_with fail
      go_roundw
      case rel => exact ⟨j, l ++ [s], q + 1, by go_num, ho3, by simp; omega, by
        intro t ht; rw [List.mem_append] at ht; rcases ht with ht | ht
        · exact HSH.out t ht
        · rw [List.mem_singleton] at ht; subst ht; exact hs, hR3, by simp; omega, hG3⟩
      case measure => simp [intOf]
    · obtain rfl : k = 0 := by omega
      go_wp2_with fail
      go_ret
      exact ⟨_, l, q, rfl, ho, by omega, HSH.out, hR, by omega, hG⟩

set_option maxRecDepth 100000 in
set_option maxHeartbeats 40000000 in
theorem order_any (r p : Nat) (v : Value) (zs : List Int) (w : World) (h : RdAt w r v zs p) (hp : p ≤ 80000) :
    Calls Tryd.prog 33 #[.pointer (some ⟨r, 0, none⟩)] w fun e w' => ∃ u l q, e = .returned u ∧ Owns w' w.heap.size u l ∧ (1 ≤ l.length ∧ l.length ≤ 8) ∧ (∀ s ∈ l, s.size ≤ 41) ∧ RdAt w' r v zs q ∧ q ≤ p + 20 ∧ w.grownBy w' (some r) := by
  have hrl := rd_lt h
  go_enter Tryd.func33, Tryd.ntmps33
  go_wp2_with fail
  refine (key_any r p v zs w h (by omega)).mono ?_
  rintro e w1 ⟨K, rfl, hK, hR1, hG1⟩
  go_wp2_with fail
  refine (text_any r (p + 1) v zs w1 hR1 (by omega)).mono ?_
  rintro e w2 ⟨T, rfl, hT, _, hR2, hg2⟩
  have hG2 := grown_trans2 hG1 hg2
  clear hG1 hg2 hR1 h
  go_wp2_with fail
  refine (pick_any r (p + 2) v zs _ w2 hR2 (by omega) (by omega) (by omega)).mono ?_
  rintro e w3 ⟨x, rfl, hx0, hx1, hR3, hg3⟩
  have hG3 := grown_trans2 hG2 hg3
  clear hG2 hg3 hR2
  have hx : x = 0 ∨ x = 1 ∨ x = 2 ∨ x = 3 ∨ x = 4 ∨ x = 5 ∨ x = 6 ∨ x = 7 ∨ x = 8 ∨ x = 9 ∨ x = 10 ∨ x = 11 := by omega
  clear hx0 hx1
  rcases hx with rfl | rfl | rfl | rfl | rfl | rfl | rfl | rfl | rfl | rfl | rfl | rfl
  · go_wp2_with fail
    refine (of_cells r (p + 3) v zs _ _ w3 hR3 (by omega) (by rfl) (by decide) (by decide) (by repeat (first | exact trivial | refine ⟨by first | assumption | decide, ?_⟩))).mono ?_
    rintro e w4 ⟨s15, rfl, hs15, hR4, hg4⟩
    have hG4 := grown_trans2 hG3 hg4
    clear hg4 hR3 hG3
    go_wp2_with fail
    have hO : Owns (w4.alloc (.cells (([s15, K] : List ByteArray).map Value.string).toArray 9)) w.heap.size (.slice (some ⟨w4.heap.size, 0, none⟩) 2 2) [s15, K] := own_litL w4 w.heap.size [s15, K] hG4.size
    have hSH : ∀ s ∈ ([s15, K] : List ByteArray), s.size ≤ 41 := allS_mem (by repeat (first | exact trivial | refine ⟨by first | assumption | decide, ?_⟩))
    go_ret
    exact ⟨_, _, p + 4, rfl, hO, by simp, hSH, rd_grown hR4 ((Below.refl _ w4).alloc (Nat.le_refl _) _), by omega, grown_trans2 hG4 (World.grownBy_alloc w4 _ (some r))⟩
  · go_wp2_with fail
    refine (of_cells r (p + 3) v zs _ _ w3 hR3 (by omega) (by rfl) (by decide) (by decide) (by repeat (first | exact trivial | refine ⟨by first | assumption | decide, ?_⟩))).mono ?_
    rintro e w4 ⟨s22, rfl, hs22, hR4, hg4⟩
    have hG4 := grown_trans2 hG3 hg4
    clear hg4 hR3 hG3
    go_wp2_with fail
    have hO : Owns (w4.alloc (.cells (([⟨#[83, 69, 84]⟩, s22, T] : List ByteArray).map Value.string).toArray 9)) w.heap.size (.slice (some ⟨w4.heap.size, 0, none⟩) 3 3) [⟨#[83, 69, 84]⟩, s22, T] := own_litL w4 w.heap.size [⟨#[83, 69, 84]⟩, s22, T] hG4.size
    have hSH : ∀ s ∈ ([⟨#[83, 69, 84]⟩, s22, T] : List ByteArray), s.size ≤ 41 := allS_mem (by repeat (first | exact trivial | refine ⟨by first | assumption | decide, ?_⟩))
    go_ret
    exact ⟨_, _, p + 4, rfl, hO, by simp, hSH, rd_grown hR4 ((Below.refl _ w4).alloc (Nat.le_refl _) _), by omega, grown_trans2 hG4 (World.grownBy_alloc w4 _ (some r))⟩
  · go_wp2_with fail
    refine (of_cells r (p + 3) v zs _ _ w3 hR3 (by omega) (by rfl) (by decide) (by decide) (by repeat (first | exact trivial | refine ⟨by first | assumption | decide, ?_⟩))).mono ?_
    rintro e w4 ⟨s29, rfl, hs29, hR4, hg4⟩
    have hG4 := grown_trans2 hG3 hg4
    clear hg4 hR3 hG3
    go_wp2_with fail
    refine (of_cells r (p + 4) v zs _ _ w4 hR4 (by omega) (by rfl) (by decide) (by decide) (by repeat (first | exact trivial | refine ⟨by first | assumption | decide, ?_⟩))).mono ?_
    rintro e w5 ⟨s32, rfl, hs32, hR5, hg5⟩
    have hG5 := grown_trans2 hG4 hg5
    clear hg5 hR4 hG4
    go_wp2_with fail
    refine (int_any r (p + 5) v zs _ hR5 (by omega)).mono ?_
    rintro e w6 ⟨s36, rfl, hs36, hR6, hg6⟩
    have hG6 := grown_trans2 hG5 hg6
    clear hg6 hR5 hG5
    go_wp2_with fail
    refine (of_cells r (p + 6) v zs _ _ w6 hR6 (by omega) (by rfl) (by decide) (by decide) (by repeat (first | exact trivial | refine ⟨by first | assumption | decide, ?_⟩))).mono ?_
    rintro e w7 ⟨s38, rfl, hs38, hR7, hg7⟩
    have hG7 := grown_trans2 hG6 hg7
    clear hg7 hR6 hG6
    go_wp2_with fail
    have hO : Owns (w7.alloc (.cells (([s29, s32, s38] : List ByteArray).map Value.string).toArray 9)) w.heap.size (.slice (some ⟨w7.heap.size, 0, none⟩) 3 3) [s29, s32, s38] := own_litL w7 w.heap.size [s29, s32, s38] hG7.size
    have hSH : ∀ s ∈ ([s29, s32, s38] : List ByteArray), s.size ≤ 41 := allS_mem (by repeat (first | exact trivial | refine ⟨by first | assumption | decide, ?_⟩))
    go_ret
    exact ⟨_, _, p + 7, rfl, hO, by simp, hSH, rd_grown hR7 ((Below.refl _ w7).alloc (Nat.le_refl _) _), by omega, grown_trans2 hG7 (World.grownBy_alloc w7 _ (some r))⟩
  · go_wp2_with fail
    refine (of_cells r (p + 3) v zs _ _ w3 hR3 (by omega) (by rfl) (by decide) (by decide) (by repeat (first | exact trivial | refine ⟨by first | assumption | decide, ?_⟩))).mono ?_
    rintro e w4 ⟨s44, rfl, hs44, hR4, hg4⟩
    have hG4 := grown_trans2 hG3 hg4
    clear hg4 hR3 hG3
    go_wp2_with fail
    refine (of_cells r (p + 4) v zs _ _ w4 hR4 (by omega) (by rfl) (by decide) (by decide) (by repeat (first | exact trivial | refine ⟨by first | assumption | decide, ?_⟩))).mono ?_
    rintro e w5 ⟨s47, rfl, hs47, hR5, hg5⟩
    have hG5 := grown_trans2 hG4 hg5
    clear hg5 hR4 hG4
    go_wp2_with fail
    have hO : Owns (w5.alloc (.cells (([s44, s47, T] : List ByteArray).map Value.string).toArray 9)) w.heap.size (.slice (some ⟨w5.heap.size, 0, none⟩) 3 3) [s44, s47, T] := own_litL w5 w.heap.size [s44, s47, T] hG5.size
    have hSH : ∀ s ∈ ([s44, s47, T] : List ByteArray), s.size ≤ 41 := allS_mem (by repeat (first | exact trivial | refine ⟨by first | assumption | decide, ?_⟩))
    refine (texts_draw r (p + 5) v zs 3 (w5.alloc (.cells (([s44, s47, T] : List ByteArray).map Value.string).toArray 9)) (rd_grown hR5 ((Below.refl _ w5).alloc (Nat.le_refl _) _)) (by omega) (by decide)).mono ?_
    rintro e w6 ⟨u51, l51, q51, rfl, ho51, hl51, hs51, hR6, hq51, hg6⟩
    have hO2 : Owns w6 w.heap.size _ [s44, s47, T] := World.ownsRow.kept hO hg6 (own_ne_right hO hrl)
    have hG6 := grown_trans2 (grown_trans2 hG5 (World.grownBy_alloc w5 _ (some r))) hg6
    have hGs := hG6.size
    clear hg6 hO hR5
    unfold Owns at hO2
    obtain ⟨i0, hi, hz0, hz1, hz2⟩ := info_parts infoO
    rcases own_forms ho51 with ⟨rfl, rfl⟩ | ⟨g, c, rfl, hgl, hcells⟩
    · go_wp2_with (at_builtin; refine wpList_append_own_none rfl (.tmp 49) (.tmp 51) 23 rfl w.heap.size 9 i0 1 Tryd.underlying23 hi _ _ _ rfl hO2 rfl ?_)
      go_ret
      exact ⟨_, _, q51, rfl, hO2, by simp, hSH, hR6, by omega, hG6⟩
    · go_wp2_with (at_builtin; refine wpList_append_own _ rfl (.tmp 49) (.tmp 51) 23 rfl w.heap.size 9 i0 (.string ByteArray.empty) 1 16 Tryd.underlying23 hi hz0 hz1 hz2 rfl (by decide) _ _ _ rfl hO2 ⟨g, 0, none⟩ l51.length c (l51.map Value.string) rfl (by simp) hcells (strs_allO l51) (by unfold maxLen; simp; omega) (by simp; omega) (by omega) ?_)
      intro x9 w9 hown9 hgrow9 _
      have ho9 : Owns w9 w.heap.size x9 ([s44, s47, T] ++ l51) := by unfold Owns; rw [List.length_append, List.map_append]; exact hown9
      have hB9 : Below w.heap.size w6 w9 := (Below.refl _ w6).grown hgrow9 hGs (fun i hi => (World.ownsRow.lt hO2 i hi).1)
      have hR9 := rd_kept hR6 hB9 hrl
      have hG9 := grown_base hG6 hB9
      clear hown9 hgrow9 hO2
      go_wp2_with fail
      go_ret
      exact ⟨_, _, q51, rfl, ho9, by simp; omega, mem_app hSH hs51, hR9, by omega, hG9⟩
  · go_wp2_with fail
    refine (of_cells r (p + 3) v zs _ _ w3 hR3 (by omega) (by rfl) (by decide) (by decide) (by repeat (first | exact trivial | refine ⟨by first | assumption | decide, ?_⟩))).mono ?_
    rintro e w4 ⟨s57, rfl, hs57, hR4, hg4⟩
    have hG4 := grown_trans2 hG3 hg4
    clear hg4 hR3 hG3
    go_wp2_with fail
    refine (of_cells r (p + 4) v zs _ _ w4 hR4 (by omega) (by rfl) (by decide) (by decide) (by repeat (first | exact trivial | refine ⟨by first | assumption | decide, ?_⟩))).mono ?_
    rintro e w5 ⟨s60, rfl, hs60, hR5, hg5⟩
    have hG5 := grown_trans2 hG4 hg5
    clear hg5 hR4 hG4
    go_wp2_with fail
    refine (int_any r (p + 5) v zs _ hR5 (by omega)).mono ?_
    rintro e w6 ⟨s62, rfl, hs62, hR6, hg6⟩
    have hG6 := grown_trans2 hG5 hg6
    clear hg6 hR5 hG5
    go_wp2_with fail
    refine (int_any r (p + 6) v zs _ hR6 (by omega)).mono ?_
    rintro e w7 ⟨s65, rfl, hs65, hR7, hg7⟩
    have hG7 := grown_trans2 hG6 hg7
    clear hg7 hR6 hG6
    go_wp2_with fail
    refine (of_cells r (p + 7) v zs _ _ w7 hR7 (by omega) (by rfl) (by decide) (by decide) (by repeat (first | exact trivial | refine ⟨by first | assumption | decide, ?_⟩))).mono ?_
    rintro e w8 ⟨s68, rfl, hs68, hR8, hg8⟩
    have hG8 := grown_trans2 hG7 hg8
    clear hg8 hR7 hG7
    go_wp2_with fail
    have hO : Owns (w8.alloc (.cells (([s57, s60, s62, s68] : List ByteArray).map Value.string).toArray 9)) w.heap.size (.slice (some ⟨w8.heap.size, 0, none⟩) 4 4) [s57, s60, s62, s68] := own_litL w8 w.heap.size [s57, s60, s62, s68] hG8.size
    have hSH : ∀ s ∈ ([s57, s60, s62, s68] : List ByteArray), s.size ≤ 41 := allS_mem (by repeat (first | exact trivial | refine ⟨by first | assumption | decide, ?_⟩))
    go_ret
    exact ⟨_, _, p + 8, rfl, hO, by simp, hSH, rd_grown hR8 ((Below.refl _ w8).alloc (Nat.le_refl _) _), by omega, grown_trans2 hG8 (World.grownBy_alloc w8 _ (some r))⟩
  · go_wp2_with fail
    refine (of_cells r (p + 3) v zs _ _ w3 hR3 (by omega) (by rfl) (by decide) (by decide) (by repeat (first | exact trivial | refine ⟨by first | assumption | decide, ?_⟩))).mono ?_
    rintro e w4 ⟨s74, rfl, hs74, hR4, hg4⟩
    have hG4 := grown_trans2 hG3 hg4
    clear hg4 hR3 hG3
    go_wp2_with fail
    refine (of_cells r (p + 4) v zs _ _ w4 hR4 (by omega) (by rfl) (by decide) (by decide) (by repeat (first | exact trivial | refine ⟨by first | assumption | decide, ?_⟩))).mono ?_
    rintro e w5 ⟨s77, rfl, hs77, hR5, hg5⟩
    have hG5 := grown_trans2 hG4 hg5
    clear hg5 hR4 hG4
    go_wp2_with fail
    have hO : Owns (w5.alloc (.cells (([s74, s77, T] : List ByteArray).map Value.string).toArray 9)) w.heap.size (.slice (some ⟨w5.heap.size, 0, none⟩) 3 3) [s74, s77, T] := own_litL w5 w.heap.size [s74, s77, T] hG5.size
    have hSH : ∀ s ∈ ([s74, s77, T] : List ByteArray), s.size ≤ 41 := allS_mem (by repeat (first | exact trivial | refine ⟨by first | assumption | decide, ?_⟩))
    refine (texts_draw r (p + 5) v zs 2 (w5.alloc (.cells (([s74, s77, T] : List ByteArray).map Value.string).toArray 9)) (rd_grown hR5 ((Below.refl _ w5).alloc (Nat.le_refl _) _)) (by omega) (by decide)).mono ?_
    rintro e w6 ⟨u81, l81, q81, rfl, ho81, hl81, hs81, hR6, hq81, hg6⟩
    have hO2 : Owns w6 w.heap.size _ [s74, s77, T] := World.ownsRow.kept hO hg6 (own_ne_right hO hrl)
    have hG6 := grown_trans2 (grown_trans2 hG5 (World.grownBy_alloc w5 _ (some r))) hg6
    have hGs := hG6.size
    clear hg6 hO hR5
    unfold Owns at hO2
    obtain ⟨i0, hi, hz0, hz1, hz2⟩ := info_parts infoO
    rcases own_forms ho81 with ⟨rfl, rfl⟩ | ⟨g, c, rfl, hgl, hcells⟩
    · go_wp2_with (at_builtin; refine wpList_append_own_none rfl (.tmp 79) (.tmp 81) 23 rfl w.heap.size 9 i0 1 Tryd.underlying23 hi _ _ _ rfl hO2 rfl ?_)
      go_ret
      exact ⟨_, _, q81, rfl, hO2, by simp, hSH, hR6, by omega, hG6⟩
    · go_wp2_with (at_builtin; refine wpList_append_own _ rfl (.tmp 79) (.tmp 81) 23 rfl w.heap.size 9 i0 (.string ByteArray.empty) 1 16 Tryd.underlying23 hi hz0 hz1 hz2 rfl (by decide) _ _ _ rfl hO2 ⟨g, 0, none⟩ l81.length c (l81.map Value.string) rfl (by simp) hcells (strs_allO l81) (by unfold maxLen; simp; omega) (by simp; omega) (by omega) ?_)
      intro x9 w9 hown9 hgrow9 _
      have ho9 : Owns w9 w.heap.size x9 ([s74, s77, T] ++ l81) := by unfold Owns; rw [List.length_append, List.map_append]; exact hown9
      have hB9 : Below w.heap.size w6 w9 := (Below.refl _ w6).grown hgrow9 hGs (fun i hi => (World.ownsRow.lt hO2 i hi).1)
      have hR9 := rd_kept hR6 hB9 hrl
      have hG9 := grown_base hG6 hB9
      clear hown9 hgrow9 hO2
      go_wp2_with fail
      go_ret
      exact ⟨_, _, q81, rfl, ho9, by simp; omega, mem_app hSH hs81, hR9, by omega, hG9⟩
  · go_wp2_with fail
    refine (of_cells r (p + 3) v zs _ _ w3 hR3 (by omega) (by rfl) (by decide) (by decide) (by repeat (first | exact trivial | refine ⟨by first | assumption | decide, ?_⟩))).mono ?_
    rintro e w4 ⟨s87, rfl, hs87, hR4, hg4⟩
    have hG4 := grown_trans2 hG3 hg4
    clear hg4 hR3 hG3
    go_wp2_with fail
    refine (of_cells r (p + 4) v zs _ _ w4 hR4 (by omega) (by rfl) (by decide) (by decide) (by repeat (first | exact trivial | refine ⟨by first | assumption | decide, ?_⟩))).mono ?_
    rintro e w5 ⟨s90, rfl, hs90, hR5, hg5⟩
    have hG5 := grown_trans2 hG4 hg5
    clear hg5 hR4 hG4
    go_wp2_with fail
    refine (of_cells r (p + 5) v zs _ _ w5 hR5 (by omega) (by rfl) (by decide) (by decide) (by repeat (first | exact trivial | refine ⟨by first | assumption | decide, ?_⟩))).mono ?_
    rintro e w6 ⟨s94, rfl, hs94, hR6, hg6⟩
    have hG6 := grown_trans2 hG5 hg6
    clear hg6 hR5 hG5
    go_wp2_with fail
    have hO : Owns (w6.alloc (.cells (([s87, s90, s94] : List ByteArray).map Value.string).toArray 9)) w.heap.size (.slice (some ⟨w6.heap.size, 0, none⟩) 3 3) [s87, s90, s94] := own_litL w6 w.heap.size [s87, s90, s94] hG6.size
    have hSH : ∀ s ∈ ([s87, s90, s94] : List ByteArray), s.size ≤ 41 := allS_mem (by repeat (first | exact trivial | refine ⟨by first | assumption | decide, ?_⟩))
    go_ret
    exact ⟨_, _, p + 6, rfl, hO, by simp, hSH, rd_grown hR6 ((Below.refl _ w6).alloc (Nat.le_refl _) _), by omega, grown_trans2 hG6 (World.grownBy_alloc w6 _ (some r))⟩
  · go_wp2_with fail
    refine (of_cells r (p + 3) v zs _ _ w3 hR3 (by omega) (by rfl) (by decide) (by decide) (by repeat (first | exact trivial | refine ⟨by first | assumption | decide, ?_⟩))).mono ?_
    rintro e w4 ⟨s100, rfl, hs100, hR4, hg4⟩
    have hG4 := grown_trans2 hG3 hg4
    clear hg4 hR3 hG3
    go_wp2_with fail
    refine (int_any r (p + 4) v zs _ hR4 (by omega)).mono ?_
    rintro e w5 ⟨s102, rfl, hs102, hR5, hg5⟩
    have hG5 := grown_trans2 hG4 hg5
    clear hg5 hR4 hG4
    go_wp2_with fail
    refine (int_any r (p + 5) v zs _ hR5 (by omega)).mono ?_
    rintro e w6 ⟨s106, rfl, hs106, hR6, hg6⟩
    have hG6 := grown_trans2 hG5 hg6
    clear hg6 hR5 hG5
    go_wp2_with fail
    refine (of_cells r (p + 6) v zs _ _ w6 hR6 (by omega) (by rfl) (by decide) (by decide) (by repeat (first | exact trivial | refine ⟨by first | assumption | decide, ?_⟩))).mono ?_
    rintro e w7 ⟨s108, rfl, hs108, hR7, hg7⟩
    have hG7 := grown_trans2 hG6 hg7
    clear hg7 hR6 hG6
    go_wp2_with fail
    have hO : Owns (w7.alloc (.cells (([s100, ⟨#[122]⟩, s102, s108] : List ByteArray).map Value.string).toArray 9)) w.heap.size (.slice (some ⟨w7.heap.size, 0, none⟩) 4 4) [s100, ⟨#[122]⟩, s102, s108] := own_litL w7 w.heap.size [s100, ⟨#[122]⟩, s102, s108] hG7.size
    have hSH : ∀ s ∈ ([s100, ⟨#[122]⟩, s102, s108] : List ByteArray), s.size ≤ 41 := allS_mem (by repeat (first | exact trivial | refine ⟨by first | assumption | decide, ?_⟩))
    go_ret
    exact ⟨_, _, p + 7, rfl, hO, by simp, hSH, rd_grown hR7 ((Below.refl _ w7).alloc (Nat.le_refl _) _), by omega, grown_trans2 hG7 (World.grownBy_alloc w7 _ (some r))⟩
  · go_wp2_with fail
    refine (of_cells r (p + 3) v zs _ _ w3 hR3 (by omega) (by rfl) (by decide) (by decide) (by repeat (first | exact trivial | refine ⟨by first | assumption | decide, ?_⟩))).mono ?_
    rintro e w4 ⟨s114, rfl, hs114, hR4, hg4⟩
    have hG4 := grown_trans2 hG3 hg4
    clear hg4 hR3 hG3
    go_wp2_with fail
    refine (of_cells r (p + 4) v zs _ _ w4 hR4 (by omega) (by rfl) (by decide) (by decide) (by repeat (first | exact trivial | refine ⟨by first | assumption | decide, ?_⟩))).mono ?_
    rintro e w5 ⟨s117, rfl, hs117, hR5, hg5⟩
    have hG5 := grown_trans2 hG4 hg5
    clear hg5 hR4 hG4
    go_wp2_with fail
    have hO : Owns (w5.alloc (.cells (([s114, s117, T] : List ByteArray).map Value.string).toArray 9)) w.heap.size (.slice (some ⟨w5.heap.size, 0, none⟩) 3 3) [s114, s117, T] := own_litL w5 w.heap.size [s114, s117, T] hG5.size
    have hSH : ∀ s ∈ ([s114, s117, T] : List ByteArray), s.size ≤ 41 := allS_mem (by repeat (first | exact trivial | refine ⟨by first | assumption | decide, ?_⟩))
    go_ret
    exact ⟨_, _, p + 5, rfl, hO, by simp, hSH, rd_grown hR5 ((Below.refl _ w5).alloc (Nat.le_refl _) _), by omega, grown_trans2 hG5 (World.grownBy_alloc w5 _ (some r))⟩
  · go_wp2_with fail
    refine (of_cells r (p + 3) v zs _ _ w3 hR3 (by omega) (by rfl) (by decide) (by decide) (by repeat (first | exact trivial | refine ⟨by first | assumption | decide, ?_⟩))).mono ?_
    rintro e w4 ⟨s124, rfl, hs124, hR4, hg4⟩
    have hG4 := grown_trans2 hG3 hg4
    clear hg4 hR3 hG3
    go_wp2_with fail
    refine (of_cells r (p + 4) v zs _ _ w4 hR4 (by omega) (by rfl) (by decide) (by decide) (by repeat (first | exact trivial | refine ⟨by first | assumption | decide, ?_⟩))).mono ?_
    rintro e w5 ⟨s128, rfl, hs128, hR5, hg5⟩
    have hG5 := grown_trans2 hG4 hg5
    clear hg5 hR4 hG4
    go_wp2_with fail
    refine (int_any r (p + 5) v zs _ hR5 (by omega)).mono ?_
    rintro e w6 ⟨s132, rfl, hs132, hR6, hg6⟩
    have hG6 := grown_trans2 hG5 hg6
    clear hg6 hR5 hG5
    go_wp2_with fail
    refine (of_cells r (p + 6) v zs _ _ w6 hR6 (by omega) (by rfl) (by decide) (by decide) (by repeat (first | exact trivial | refine ⟨by first | assumption | decide, ?_⟩))).mono ?_
    rintro e w7 ⟨s134, rfl, hs134, hR7, hg7⟩
    have hG7 := grown_trans2 hG6 hg7
    clear hg7 hR6 hG6
    go_wp2_with fail
    have hO : Owns (w7.alloc (.cells (([s124, ⟨#[104]⟩, s128, s134] : List ByteArray).map Value.string).toArray 9)) w.heap.size (.slice (some ⟨w7.heap.size, 0, none⟩) 4 4) [s124, ⟨#[104]⟩, s128, s134] := own_litL w7 w.heap.size [s124, ⟨#[104]⟩, s128, s134] hG7.size
    have hSH : ∀ s ∈ ([s124, ⟨#[104]⟩, s128, s134] : List ByteArray), s.size ≤ 41 := allS_mem (by repeat (first | exact trivial | refine ⟨by first | assumption | decide, ?_⟩))
    go_ret
    exact ⟨_, _, p + 7, rfl, hO, by simp, hSH, rd_grown hR7 ((Below.refl _ w7).alloc (Nat.le_refl _) _), by omega, grown_trans2 hG7 (World.grownBy_alloc w7 _ (some r))⟩
  · go_wp2_with fail
    refine (of_cells r (p + 3) v zs _ _ w3 hR3 (by omega) (by rfl) (by decide) (by decide) (by repeat (first | exact trivial | refine ⟨by first | assumption | decide, ?_⟩))).mono ?_
    rintro e w4 ⟨s140, rfl, hs140, hR4, hg4⟩
    have hG4 := grown_trans2 hG3 hg4
    clear hg4 hR3 hG3
    go_wp2_with fail
    refine (of_cells r (p + 4) v zs _ _ w4 hR4 (by omega) (by rfl) (by decide) (by decide) (by repeat (first | exact trivial | refine ⟨by first | assumption | decide, ?_⟩))).mono ?_
    rintro e w5 ⟨s144, rfl, hs144, hR5, hg5⟩
    have hG5 := grown_trans2 hG4 hg5
    clear hg5 hR4 hG4
    go_wp2_with fail
    have hO : Owns (w5.alloc (.cells (([s140, K, s144] : List ByteArray).map Value.string).toArray 9)) w.heap.size (.slice (some ⟨w5.heap.size, 0, none⟩) 3 3) [s140, K, s144] := own_litL w5 w.heap.size [s140, K, s144] hG5.size
    have hSH : ∀ s ∈ ([s140, K, s144] : List ByteArray), s.size ≤ 41 := allS_mem (by repeat (first | exact trivial | refine ⟨by first | assumption | decide, ?_⟩))
    go_ret
    exact ⟨_, _, p + 5, rfl, hO, by simp, hSH, rd_grown hR5 ((Below.refl _ w5).alloc (Nat.le_refl _) _), by omega, grown_trans2 hG5 (World.grownBy_alloc w5 _ (some r))⟩
  · go_wp2_with fail
    refine (of_cells r (p + 3) v zs _ _ w3 hR3 (by omega) (by rfl) (by decide) (by decide) (by repeat (first | exact trivial | refine ⟨by first | assumption | decide, ?_⟩))).mono ?_
    rintro e w4 ⟨s148, rfl, hs148, hR4, hg4⟩
    have hG4 := grown_trans2 hG3 hg4
    clear hg4 hR3 hG3
    go_wp2_with fail
    refine (of_cells r (p + 4) v zs _ _ w4 hR4 (by omega) (by rfl) (by decide) (by decide) (by repeat (first | exact trivial | refine ⟨by first | assumption | decide, ?_⟩))).mono ?_
    rintro e w5 ⟨s152, rfl, hs152, hR5, hg5⟩
    have hG5 := grown_trans2 hG4 hg5
    clear hg5 hR4 hG4
    go_wp2_with fail
    have hO : Owns (w5.alloc (.cells (([s148, s152] : List ByteArray).map Value.string).toArray 9)) w.heap.size (.slice (some ⟨w5.heap.size, 0, none⟩) 2 2) [s148, s152] := own_litL w5 w.heap.size [s148, s152] hG5.size
    have hSH : ∀ s ∈ ([s148, s152] : List ByteArray), s.size ≤ 41 := allS_mem (by repeat (first | exact trivial | refine ⟨by first | assumption | decide, ?_⟩))
    refine (texts_draw r (p + 5) v zs 1 (w5.alloc (.cells (([s148, s152] : List ByteArray).map Value.string).toArray 9)) (rd_grown hR5 ((Below.refl _ w5).alloc (Nat.le_refl _) _)) (by omega) (by decide)).mono ?_
    rintro e w6 ⟨u155, l155, q155, rfl, ho155, hl155, hs155, hR6, hq155, hg6⟩
    have hO2 : Owns w6 w.heap.size _ [s148, s152] := World.ownsRow.kept hO hg6 (own_ne_right hO hrl)
    have hG6 := grown_trans2 (grown_trans2 hG5 (World.grownBy_alloc w5 _ (some r))) hg6
    have hGs := hG6.size
    clear hg6 hO hR5
    unfold Owns at hO2
    obtain ⟨i0, hi, hz0, hz1, hz2⟩ := info_parts infoO
    rcases own_forms ho155 with ⟨rfl, rfl⟩ | ⟨g, c, rfl, hgl, hcells⟩
    · go_wp2_with (at_builtin; refine wpList_append_own_none rfl (.tmp 153) (.tmp 155) 23 rfl w.heap.size 9 i0 1 Tryd.underlying23 hi _ _ _ rfl hO2 rfl ?_)
      go_ret
      exact ⟨_, _, q155, rfl, hO2, by simp, hSH, hR6, by omega, hG6⟩
    · go_wp2_with (at_builtin; refine wpList_append_own _ rfl (.tmp 153) (.tmp 155) 23 rfl w.heap.size 9 i0 (.string ByteArray.empty) 1 16 Tryd.underlying23 hi hz0 hz1 hz2 rfl (by decide) _ _ _ rfl hO2 ⟨g, 0, none⟩ l155.length c (l155.map Value.string) rfl (by simp) hcells (strs_allO l155) (by unfold maxLen; simp; omega) (by simp; omega) (by omega) ?_)
      intro x9 w9 hown9 hgrow9 _
      have ho9 : Owns w9 w.heap.size x9 ([s148, s152] ++ l155) := by unfold Owns; rw [List.length_append, List.map_append]; exact hown9
      have hB9 : Below w.heap.size w6 w9 := (Below.refl _ w6).grown hgrow9 hGs (fun i hi => (World.ownsRow.lt hO2 i hi).1)
      have hR9 := rd_kept hR6 hB9 hrl
      have hG9 := grown_base hG6 hB9
      clear hown9 hgrow9 hO2
      go_wp2_with fail
      go_ret
      exact ⟨_, _, q155, rfl, ho9, by simp; omega, mem_app hSH hs155, hR9, by omega, hG9⟩
end Go.Proofs.YtfoflnolmlgnfaaDoor
