/- ListSet, the program's and the model's. -/
import Derived.Test.YtnofhdcaihkoeaaPlace
import Derived.Test.YtnofhdcaihkoeaaPopI
import Derived.Test.YtnofhdcaihkoeaaCopyS
import Derived.Test.YtnofhdcaihkoeaaMark
namespace Go.Proofs.Ytnofhdcaihkoeaa
open Go.RowKit

/-- a place, told from the front -/
def atP (n at0 : Int) : Int := if at0 < 0 then at0 + n else at0
/-- whether the place is one -/
def setOkB (l : List ByteArray) (at0 : Int) (s : ByteArray) : Bool := okB l && decide (0 ≤ atP l.length at0) && decide (atP l.length at0 < l.length) && decide (s.size ≤ 40)
def setR (l : List ByteArray) (at0 : Int) (s : ByteArray) : List ByteArray := if okB l = true then (if setOkB l at0 s = true then l.set (atP l.length at0).toNat s else l) else []

theorem ringL_set {sl : List ByteArray} {n k : Nat} {s : ByteArray} (hl : sl.length = 16) (hn : n ≤ 16) (hk : k < n) : ringL (sl.set ((0 + k) % 16) s) 0 n = (ringL sl 0 n).set k s := by
  unfold ringL
  apply List.ext_getElem
  · simp
  · intro i h1 h2
    simp at h1
    rw [List.getElem_set]
    by_cases e : k = i
    · subst e
      simp only [List.getElem_map, List.getElem_range, if_true]
      exact at_set_eq (by omega)
    · rw [if_neg e]
      simp only [List.getElem_map, List.getElem_range]
      exact at_set_ne (by omega)

theorem set_no {l : List ByteArray} {at0 : Int} {s : ByteArray} (h : 0 ≤ atP l.length at0 → atP l.length at0 < l.length → s.size ≤ 40 → False) : setOkB l at0 s = false := by
  unfold setOkB
  rw [Bool.eq_false_iff]
  intro hh
  simp only [Bool.and_eq_true, decide_eq_true_eq] at hh
  exact h hh.1.1.2 hh.1.2 hh.2
theorem set_yes {l : List ByteArray} {at0 : Int} {s : ByteArray} (hok : okB l = true) (h1 : 0 ≤ atP l.length at0) (h2 : atP l.length at0 < l.length) (h3 : s.size ≤ 40) : setOkB l at0 s = true := by
  unfold setOkB; rw [hok]; simp only [Bool.true_and, Bool.and_eq_true, decide_eq_true_eq]; exact ⟨⟨h1, h2⟩, h3⟩
theorem set_at {l : List ByteArray} {at0 : Int} {s : ByteArray} (h : setOkB l at0 s = true) : ∃ k : Nat, atP l.length at0 = (k : Int) ∧ k < l.length := by
  unfold setOkB at h
  simp only [Bool.and_eq_true, decide_eq_true_eq] at h
  exact ⟨(atP l.length at0).toNat, by omega, by omega⟩

set_option maxHeartbeats 4000000 in
theorem implSet_any (v : Value) (l : List ByteArray) (at0 : Int) (s : ByteArray) (w : World) (hr : Reads w v l) (hlen : l.length ≤ 1048576) (hat : -9223372036854775808 ≤ at0 ∧ at0 ≤ 9223372036854775807) (hsz : s.size ≤ maxLen) :
    Calls Try.prog 29 #[v, .int .i64 at0, .string s] w fun e w' => ∃ u, e = .returned (.tuple #[u, .bool (setOkB l at0 s)]) ∧ Owns w' w.heap.size u (setR l at0 s) ∧ Below w.heap.size w w' := by
  unfold maxLen at hsz
  obtain ⟨hat1, hat2⟩ := hat
  cases hok : okB l with
  | false =>
    have HB : Hid (setOkB l at0 s = false) := by show _ = _; unfold setOkB; rw [hok]; rfl
    have HR : Hid (setR l at0 s = []) := by show _ = _; unfold setR; rw [hok]; rfl
    go_enter Try.func29, Try.ntmps29
    go_wp2_with fail
    refine (ringOf_bad v l _ hr hlen hok).mono ?_
    rintro e w1 ⟨rfl, hB⟩
    have hs1 := hB.size
    have hi := infoRs (f := 0) (n := 0) (sl := none16) rfl
    go_wp2_with (refine wpList_store_row rfl 51 (.tmp 8) (.tmp 13) rfl w1.heap.size (ringArr none16 0 0) rfl rfl 51 (ringArr none16 0 0) (heap_alloc_new _ _) hi rfl ringArr_one ?_; show wpList _ _ _ _ _ (stored w1 none16 0 0))
    go_ret2
    exact ⟨_, by rw [HB.out]; rfl, by rw [HR.out]; exact owns_nil _ _, below_stored hB hs1 _ _ _⟩
  | true =>
    have hn : l.length ≤ 16 := by unfold okB at hok; simp at hok; exact hok.1
    have HOK : Hid (okB l = true) := hok
    go_enter Try.func29, Try.ntmps29
    go_wp2_with fail
    refine (ringOf_ok v l _ hr hok).mono ?_
    rintro e w1 ⟨sl, rfl, hl, hL, hB⟩
    have hs1 := hB.size
    have hi := infoRs (f := 0) (n := l.length) hl
    have hR := ring_stored w1 hl (f := 0) (n := l.length) (by omega) hn
    have hc := ring_size hR
    have hc0 := ring_first hR
    have hB2 := below_stored hB hs1 sl 0 l.length
    have HL : Hid (ringL sl 0 l.length = l) := hL
    have hs2 := stored_size w1 sl 0 l.length
    clear hL hr hok hB
    generalize hW : stored w1 sl 0 l.length = w2 at *
    have HWW : Hid (stored w1 sl 0 l.length = w2) := hW
    clear hW
    go_wp2_with (first | (refine wpList_store_row rfl 51 (.tmp 8) (.tmp 13) rfl w1.heap.size (ringArr sl 0 l.length) rfl rfl 51 (ringArr none16 0 0) (heap_alloc_new _ _) hi (sizeRs hl) ringArr_one ?_; show wpList _ _ _ _ _ (stored w1 sl 0 l.length); rw [HWW.out]))
    all_goals first
      | (refine (texts_any w1.heap.size 0 l.length sl _ hR).mono ?_
         rintro e w3 ⟨u, rfl, ho, hB3⟩
         rw [HL.out] at ho
         have hsz2 := hB2.size
         have hB4 := hB2.trans (hB3.mono hsz2)
         have ho2 := owns_base ho hsz2
         have hno : setOkB l at0 s = false := set_no (by intro h1 h2 h3; unfold atP at h1 h2; split at h1 <;> omega)
         have HB : Hid (setOkB l at0 s = false) := hno
         have HR : Hid (setR l at0 s = l) := by show _ = _; unfold setR; rw [HOK.out, hno]; rfl
         clear ho hB3 hno
         go_wp2_with fail
         go_ret2
         exact ⟨_, by rw [HB.out]; rfl, by rw [HR.out]; exact ho2, hB4⟩)
      | (refine (put_any w1.heap.size 0 l.length sl _ s _ hR (by omega) (by omega)).mono ?_
         rintro e w3 ⟨rfl, rfl⟩
         have hyes : setOkB l at0 s = true := set_yes HOK.out (by unfold atP; split <;> omega) (by unfold atP; split <;> omega) (by omega)
         obtain ⟨k, hk, hkl⟩ : ∃ k : Nat, atP l.length at0 = (k : Int) ∧ k < l.length := set_at hyes
         have hR3 := ring_put hR (i := k % 16) (Nat.mod_lt _ (by omega)) s
         have HR : Hid (setR l at0 s = l.set k s) := by show _ = _; unfold setR; rw [HOK.out, hyes, hk]; rfl
         have HB : Hid (setOkB l at0 s = true) := hyes
         have ek : ∀ x : Int, x = atP l.length at0 → x.toNat % 16 = k % 16 := fun x hx => by rw [hx, hk]; simp
         rw [ek _ (by unfold atP; first | rw [if_pos (by omega)] | rw [if_neg (by omega)])]
         have hB3 := hB2.setCell (p := ⟨w1.heap.size, k % 16, none⟩) hs1 (.string s)
         have hs3 := hB3.size
         clear hyes ek hk hB2 hR hc hc0
         generalize w2.setCell ⟨w1.heap.size, k % 16, none⟩ (.string s) = w4 at *
         go_wp2_with fail
         refine (texts_any w1.heap.size 0 l.length _ _ hR3).mono ?_
         rintro e w5 ⟨u, rfl, ho, hB5⟩
         rw [show k % 16 = (0 + k) % 16 by omega, ringL_set hl hn hkl, HL.out] at ho
         have hB6 := hB3.trans (hB5.mono hs3)
         have ho2 := owns_base ho hs3
         clear ho hB5
         go_wp2_with fail
         go_ret2
         exact ⟨_, by rw [HB.out]; rfl, by rw [HR.out]; exact ho2, hB6⟩)

theorem inB_of {a lo hi : Int} (h1 : lo ≤ a) (h2 : a ≤ hi) : inB a lo hi = true := by simp [inB]; omega
theorem not_inB {a lo hi : Int} (h : a < lo ∨ hi < a) : inB a lo hi = false := by simp [inB]; omega

set_option maxHeartbeats 4000000 in
theorem specSet_bad (v : Value) (l : List ByteArray) (at0 : Int) (s : ByteArray) (w : World) (hr : Reads w v l) (hlen : l.length ≤ 1048576) (hok : okB l = false) :
    Calls Try.prog 28 #[v, .int .i64 at0, .string s] w fun e w' => ∃ u, e = .returned (.tuple #[u, .bool false]) ∧ Owns w' w.heap.size u [] ∧ Below w.heap.size w w' := by
  have ho : Owns (w.alloc (.cells #[] 9)) w.heap.size (.slice (some ⟨w.heap.size, 0, none⟩) 0 0) [] := World.ownsRow_lit w #[] 0 (Nat.le_refl _) (by simp) rfl
  have hB : Below w.heap.size w (w.alloc (.cells #[] 9)) := (Below.refl _ _).alloc (Nat.le_refl _) _
  go_enter Try.func28, Try.ntmps28
  go_wp2_with (go_at_call 40; refine (l2Texts_any _ l _ hr hlen).mono ?_; rintro e w' ⟨rfl, rfl⟩)
  go_ret2
  exact ⟨_, rfl, ho, hB⟩

set_option maxHeartbeats 4000000 in
theorem specSet_ok (v : Value) (l : List ByteArray) (at0 : Int) (s : ByteArray) (w : World) (hr : Reads w v l) (hat : -9223372036854775808 ≤ at0 ∧ at0 ≤ 9223372036854775807) (hsz : s.size ≤ maxLen) (hok : okB l = true) :
    Calls Try.prog 28 #[v, .int .i64 at0, .string s] w fun e w' => ∃ u, e = .returned (.tuple #[u, .bool (setOkB l at0 s)]) ∧ Owns w' w.heap.size u (setR l at0 s) ∧ Below w.heap.size w w' := by
  unfold maxLen at hsz
  obtain ⟨hat1, hat2⟩ := hat
  have hn : l.length ≤ 16 := by unfold okB at hok; simp at hok; exact hok.1
  have HOK : Hid (okB l = true) := hok
  obtain ⟨ao, cap, hv⟩ := reads_shape hr
  subst hv
  go_enter Try.func28, Try.ntmps28
  go_wp2_with (go_at_call 40; refine (l2Texts_any _ l _ hr (by omega)).mono ?_; rintro e w' ⟨rfl, rfl⟩)
  refine (copy_any _ l _ hr (by omega)).mono ?_
  rintro e w3 ⟨u, rfl, ho, hB⟩
  clear hr hok
  by_cases hpl : placeB at0 = true
  · have bp := place_bd hpl
    cases hb : setOkB l at0 s with
    | false =>
      have HB : Hid (setOkB l at0 s = false) := hb
      have HR : Hid (setR l at0 s = l) := by show _ = _; unfold setR; rw [HOK.out, hb]; rfl
      have hcase : 40 < (s.size : Int) ∨ ((s.size : Int) ≤ 40 ∧ at0 < 0 ∧ inB (at0 + l.length) 0 (l.length - 1) = false) ∨ ((s.size : Int) ≤ 40 ∧ 0 ≤ at0 ∧ inB at0 0 (l.length - 1) = false) := by
        rcases Int.lt_or_le 40 (s.size : Int) with h | h
        · exact .inl h
        · right
          have hx : ¬ (0 ≤ atP l.length at0 ∧ atP l.length at0 < l.length) := fun hh => by rw [set_yes HOK.out hh.1 hh.2 (by omega)] at hb; cases hb
          unfold atP at hx
          rcases Int.lt_or_le at0 0 with h0 | h0
          · rw [if_pos h0] at hx; exact .inl ⟨h, h0, not_inB (by omega)⟩
          · rw [if_neg (by omega)] at hx; exact .inr ⟨h, h0, not_inB (by omega)⟩
      clear hb
      rcases hcase with h | ⟨h, h0, hi⟩ | ⟨h, h0, hi⟩
      all_goals
        go_wp2_with (first | (go_at_call 47; refine (l2Place_any _ _).mono ?_; rintro e w' ⟨rfl, rfl⟩) | (go_at_call 52; refine (l1In_any _ _ _ _).mono ?_; rintro e w' ⟨rfl, rfl⟩))
        go_ret2
        exact ⟨_, by rw [HB.out]; rfl, by rw [HR.out]; exact ho, hB⟩
    | true =>
      have HB : Hid (setOkB l at0 s = true) := hb
      obtain ⟨k, hk, hkl⟩ := set_at hb
      have HR : Hid (setR l at0 s = l.set k s) := by show _ = _; unfold setR; rw [HOK.out, hb, hk]; rfl
      have h40 : (s.size : Int) ≤ 40 := by unfold setOkB at hb; simp only [Bool.and_eq_true, decide_eq_true_eq] at hb; omega
      obtain ⟨g, cap2, rfl⟩ : ∃ g cap2, u = .slice (some ⟨g, 0, none⟩) l.length cap2 := by
        rcases owns_form ho with ⟨rfl, _⟩ | ⟨_, g, c, rfl⟩
        · simp at hkl
        · exact ⟨g, c, rfl⟩
      have hst := owns_stored ho k s _ rfl
      have hfr := World.ownsRow.frozenAt ho k
      have hge := (ho.lt g rfl).1
      have hcell : w3.cell? ⟨g, k, none⟩ = some (.string (at_ l k)) := by
        rw [World.ownsRow.cellAt ho k (by omega), List.getElem?_map, List.getElem?_eq_getElem hkl, at_lt hkl]; rfl
      have hB3 := hB.setCell (p := ⟨g, k, none⟩) hge (.string s)
      clear hb ho hB
      unfold atP at hk
      rcases Int.lt_or_le at0 0 with h0 | h0
      · rw [if_pos h0] at hk
        have hin : inB (at0 + l.length) 0 (l.length - 1) = true := inB_of (by omega) (by omega)
        have hin2 : inB (k : Int) 0 (l.length - 1) = true := inB_of (by omega) (by omega)
        have hlt : (k : Int) < (l.length : Int) := by omega
        go_wp2_with (first | (go_at_call 47; refine (l2Place_any _ _).mono ?_; rintro e w' ⟨rfl, rfl⟩) | (go_at_call 52; refine (l1In_any _ _ _ _).mono ?_; rintro e w' ⟨rfl, rfl⟩))
        go_ret2
        exact ⟨_, by rw [HB.out]; rfl, by rw [HR.out]; exact hst.1, hB3⟩
      · rw [if_neg (by omega)] at hk
        subst hk
        have hin2 : inB (k : Int) 0 (l.length - 1) = true := inB_of (by omega) (by omega)
        have hlt : (k : Int) < (l.length : Int) := by omega
        go_wp2_with (first | (go_at_call 47; refine (l2Place_any _ _).mono ?_; rintro e w' ⟨rfl, rfl⟩) | (go_at_call 52; refine (l1In_any _ _ _ _).mono ?_; rintro e w' ⟨rfl, rfl⟩))
        go_ret2
        exact ⟨_, by rw [HB.out]; rfl, by rw [HR.out]; exact hst.1, hB3⟩
  · have hpl' : placeB at0 = false := by simpa using hpl
    have hno : setOkB l at0 s = false := set_no (by
      intro h1 h2 _; apply hpl; unfold placeB; apply inB_of <;> (unfold atP at h1 h2; split at h1 <;> omega))
    have HB : Hid (setOkB l at0 s = false) := hno
    have HR : Hid (setR l at0 s = l) := by show _ = _; unfold setR; rw [HOK.out, hno]; rfl
    clear hno hpl
    go_wp2_with (first | (go_at_call 47; refine (l2Place_any _ _).mono ?_; rintro e w' ⟨rfl, rfl⟩) | (go_at_call 52; refine (l1In_any _ _ _ _).mono ?_; rintro e w' ⟨rfl, rfl⟩))
    go_ret2
    exact ⟨_, by rw [HB.out]; rfl, by rw [HR.out]; exact ho, hB⟩

theorem specSet_any (v : Value) (l : List ByteArray) (at0 : Int) (s : ByteArray) (w : World) (hr : Reads w v l) (hlen : l.length ≤ 1048576) (hat : -9223372036854775808 ≤ at0 ∧ at0 ≤ 9223372036854775807) (hsz : s.size ≤ maxLen) :
    Calls Try.prog 28 #[v, .int .i64 at0, .string s] w fun e w' => ∃ u, e = .returned (.tuple #[u, .bool (setOkB l at0 s)]) ∧ Owns w' w.heap.size u (setR l at0 s) ∧ Below w.heap.size w w' := by
  cases hok : okB l with
  | false =>
    have h1 : setOkB l at0 s = false := by unfold setOkB; rw [hok]; rfl
    have h2 : setR l at0 s = [] := by unfold setR; rw [hok]; rfl
    rw [h1, h2]; exact specSet_bad v l at0 s w hr hlen hok
  | true => exact specSet_ok v l at0 s w hr hat hsz hok
theorem setR_len (l : List ByteArray) (at0 : Int) (s : ByteArray) (h : l.length ≤ 1048576) : (setR l at0 s).length ≤ 1048576 := by
  unfold setR; split
  · split
    · simpa using h
    · exact h
  · simp
end Go.Proofs.Ytnofhdcaihkoeaa
