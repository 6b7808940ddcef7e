/- The model's ListPop. -/
import Derived.Test.YtfcnhdaefleelaaCopyS
import Derived.Test.YtfcnhdaefleelaaMark
import Derived.Deep.RegionHeld3
namespace Go.Proofs.Ytfcnhdaefleelaa
open Go.RowKit

set_option maxHeartbeats 1000000 in
theorem specPop_bad (v : Value) (l : List ByteArray) (front : Bool) (w : World) (hr : Reads w v l) (hlen : l.length ≤ 1048576) (hok : okB l = false ∨ l.length = 0) :
    Calls Try.prog 24 #[v, .bool front] w fun e w' => ∃ u, e = .returned (.tuple #[u, .string ByteArray.empty, .bool false]) ∧ Owns w' w.heap.size u [] ∧ Below w.heap.size w w' := by
  have hown0 : (w.alloc (.cells #[] 9)).ownsRow w.heap.size 9 1 (.slice (some ⟨w.heap.size, 0, none⟩) 0 0) 0 [] := World.ownsRow_lit w #[] 0 (Nat.le_refl _) (by simp) rfl
  have hB0 : Below w.heap.size w (w.alloc (.cells #[] 9)) := (Below.refl _ _).alloc (Nat.le_refl _) _
  obtain ⟨ao, cap, rfl⟩ := reads_shape hr
  cases hb : okB l with
  | false =>
    go_enter Try.func24, Try.ntmps24
    go_wp2_with (go_at_call 35; refine (l2Texts_any _ l _ hr hlen).mono ?_; rintro e w' ⟨rfl, rfl⟩)
    go_ret3
    exact ⟨_, rfl, hown0, hB0⟩
  | true =>
    have h0 : l.length = 0 := by rcases hok with h | h; (rw [h] at hb; cases hb); exact h
    have h0' : ((l.length : Int) == 0) = true := by rw [h0]; rfl
    have H0 : Hid (l.length = 0) := h0
    clear h0 hok
    go_enter Try.func24, Try.ntmps24
    go_wp2_with (go_at_call 35; refine (l2Texts_any _ l _ hr hlen).mono ?_; rintro e w' ⟨rfl, rfl⟩)
    go_ret3
    exact ⟨_, rfl, hown0, hB0⟩

theorem wrap_small2 {a : Int} (h0 : -1000000 ≤ a) (h1 : a ≤ 1000000) : IntKind.i64.wrap a = a := by
  unfold IntKind.wrap; simp [IntKind.signed, IntKind.bits]; omega
theorem ret3s {u : Value} {a b : ByteArray} {c : Bool} (h : a = b) : Ending.returned (.tuple #[u, .string a, .bool c]) = .returned (.tuple #[u, .string b, .bool c]) := by rw [h]

set_option maxHeartbeats 1000000 in
theorem specPop_ok (v : Value) (l : List ByteArray) (front : Bool) (w : World) (hr : Reads w v l) (hok : okB l = true) (h0 : 0 < l.length) :
    Calls Try.prog 24 #[v, .bool front] w fun e w' => ∃ u, e = .returned (.tuple #[u, .string (popT l front), .bool true]) ∧ Owns w' w.heap.size u (popL l front) ∧ Below w.heap.size w w' := by
  have hn : l.length ≤ 16 := by unfold okB at hok; simp at hok; exact hok.1
  have hr0 := hr
  have hne : ((l.length : Int) == 0) = false := beq_eq_false_iff_ne.2 (by omega)
  have hpos : (0 : Int) < (l.length : Int) := by omega
  rcases hr with ⟨rfl, _⟩ | ⟨_, b, off, cap, rfl, hb, hnc, hcm, hc⟩
  · simp at h0
  · unfold maxLen at hcm
    cases front with
    | true =>
      go_enter Try.func24, Try.ntmps24
      go_wp2_with (go_at_call 35; refine (l2Texts_any _ l _ hr0 (by omega)).mono ?_; rintro e w' ⟨rfl, rfl⟩)
      have hcell := hc 0 h0
      rw [Nat.add_zero] at hcell
      have hl1 : (1 : Int) ≤ (l.length : Int) := by omega
      have hl2 : (l.length : Int) ≤ (cap : Int) := by omega
      have hcut : ∀ ao n c, (¬ cap = 1 → ao = some ⟨b, off + 1, none⟩) → ao ≠ none → n = l.length - 1 → c = cap - 1 → Reads w (.slice ao n c) l.tail := fun ao n c h1 h2 h3 h4 => by
        have := reads_cut hb hnc (by unfold maxLen; omega) hc (ao := ao) (a := 1) (e := l.length) h1 h2 (by omega) (Nat.le_refl _) h3 h4
        rwa [List.take_length, List.drop_one] at this
      have hlt : l.tail.length ≤ 1048576 := by simp; omega
      clear hc
      rcases (show ¬ cap = 1 ∨ cap = 1 by omega) with hcap | rfl
      all_goals
        go_region_held3 (fun w' => w'.cell? ⟨b, off, none⟩ = some (.string (at_ l 0)) ∧ Below w.heap.size w w') (first | exact ⟨hcell, (Below.refl _ _).drew⟩ | assumption | go_keep) (first
          | (go_at_call 26; refine (copy_any _ l.tail _ (reads_kept (hcut _ _ _ (by intro h; first | rfl | omega) (by intro h; first | (cases h; done) | (split at h <;> cases h; done)) (by first | rfl | omega) (by first | rfl | omega)) (And.right ‹_›)) hlt).mono ?_; rintro e w3 ⟨u, rfl, ho3, hb3⟩; have hk3 := held_on hb hb3 ‹_›; have ho4 := owns_base ho3 (And.right ‹_ ∧ Below w.heap.size w _›).size))
        go_wp2_with fail
        go_ret3
        exact ⟨u, rfl, ho4, hk3.2⟩
    | false =>
      go_enter Try.func24, Try.ntmps24
      go_wp2_with (go_at_call 35; refine (l2Texts_any _ l _ hr0 (by omega)).mono ?_; rintro e w' ⟨rfl, rfl⟩)
      obtain ⟨m, hm⟩ : ∃ m, l.length = m + 1 := ⟨l.length - 1, by omega⟩
      have hcell := hc m (by omega)
      have hwr : IntKind.i64.wrap ((l.length : Int) - 1) = (m : Int) := by rw [hm, wrap_small2 (by omega) (by omega)]; omega
      have hl0 : (0 : Int) ≤ (m : Int) := by omega
      have hl1 : (m : Int) ≤ (cap : Int) := by omega
      have hl3 : (m : Int) < (l.length : Int) := by omega
      have hcut : ∀ ao n c, ao = some ⟨b, off, none⟩ → n = m → c = cap → Reads w (.slice ao n c) l.dropLast := fun ao n c h1 h2 h3 => by
        have := reads_cut hb hnc (by unfold maxLen; omega) hc (ao := ao) (a := 0) (e := m) (fun _ => h1) (by rw [h1]; simp) (by omega) (by omega) h2 h3
        rwa [List.drop_zero, show m = l.length - 1 by omega, ← List.dropLast_eq_take] at this
      have hlt : l.dropLast.length ≤ 1048576 := by simp; omega
      have HM : Hid (l.length = m + 1) := hm
      clear hc hm
      go_region_held3 (fun w' => w'.cell? ⟨b, off + m, none⟩ = some (.string (at_ l m)) ∧ Below w.heap.size w w') (first | exact ⟨hcell, (Below.refl _ _).drew⟩ | assumption | go_keep) (first
        | (go_at_call 26; refine (copy_any _ l.dropLast _ (reads_kept (hcut _ _ _ rfl (by first | rfl | omega) (by first | rfl | omega)) (And.right ‹_›)) hlt).mono ?_; rintro e w3 ⟨u, rfl, ho3, hb3⟩; have hk3 := held_on hb hb3 ‹_›; have ho4 := owns_base ho3 (And.right ‹_ ∧ Below w.heap.size w _›).size))
      go_wp2_with fail
      go_ret3
      exact ⟨u, ret3s (by show at_ l m = at_ l (l.length - 1); rw [HM.out]; rfl), ho4, hk3.2⟩
end Go.Proofs.Ytfcnhdaefleelaa
