/- ListRange, the program's and the model's. -/
import Derived.Test.YtjgnfneondlhhaaPlace
import Derived.Test.YtjgnfneondlhhaaPopI
import Derived.Test.YtjgnfneondlhhaaCopyS
namespace Go.Proofs.Ytjgnfneondlhhaa
open Go.RowKit

def rngB (l : List ByteArray) (f t : Int) : Bool := okB l && placeB f && placeB t
def rngR (l : List ByteArray) (f t : Int) : List ByteArray := if rngB l f t = true then rng l f t else []
theorem seg_rng {sl : List ByteArray} {n a e : Nat} (h1 : a ≤ e) (h2 : e ≤ n) : seg sl 0 a (e - a) = ((ringL sl 0 n).take e).drop a := by
  unfold seg ringL
  apply List.ext_getElem
  · simp; omega
  · intro i h3 h4
    simp

set_option maxHeartbeats 4000000 in
theorem implRange_any (v : Value) (l : List ByteArray) (f t : Int) (w : World) (hr : Reads w v l) (hlen : l.length ≤ 1048576) :
    Calls Try.prog 25 #[v, .int .i64 f, .int .i64 t] w fun e w' => ∃ u, e = .returned u ∧ Owns w' w.heap.size u (rngR l f t) ∧ Below w.heap.size w w' := by
  cases hok : okB l with
  | false =>
    have hR : rngR l f t = [] := by unfold rngR rngB; rw [hok]; rfl
    rw [hR]
    clear hR
    go_enter Try.func25, Try.ntmps25
    go_wp2_with fail
    refine (ringOf_bad v l _ hr hlen hok).mono ?_
    rintro e w1 ⟨rfl, hB⟩
    have hsz := hB.size
    have hi := infoRs (f := 0) (n := 0) (sl := none16) rfl
    go_wp2_with (refine wpList_store_row rfl 51 (.tmp 7) (.tmp 12) rfl w1.heap.size (ringArr none16 0 0) rfl rfl 51 (ringArr none16 0 0) (heap_alloc_new _ _) hi rfl ringArr_one ?_; show wpList _ _ _ _ _ (stored w1 none16 0 0))
    go_ret
    exact ⟨_, rfl, owns_nil _ _, below_stored hB hsz _ _ _⟩
  | true =>
    have hn : l.length ≤ 16 := by unfold okB at hok; simp at hok; exact hok.1
    have hEq : ∀ b, (placeB f && placeB t) = b → rngB l f t = b := fun b h => by unfold rngB; rw [hok]; simpa using h
    go_enter Try.func25, Try.ntmps25
    go_wp2_with fail
    refine (ringOf_ok v l _ hr hok).mono ?_
    rintro e w1 ⟨sl, rfl, hl, hL, hB⟩
    have hsz := hB.size
    have hi := infoRs (f := 0) (n := l.length) hl
    have hR := ring_stored w1 hl (f := 0) (n := l.length) (by omega) hn
    have hc := ring_size hR
    have hB2 := below_stored hB hsz sl 0 l.length
    have HL : Hid (ringL sl 0 l.length = l) := hL
    have hs2 := stored_size w1 sl 0 l.length
    clear hL hr hok hB
    generalize hW : stored w1 sl 0 l.length = w2 at *
    have HWW : Hid (stored w1 sl 0 l.length = w2) := hW
    clear hW
    rcases (show (placeB f && placeB t) = false ∨ (placeB f = true ∧ placeB t = true) by cases placeB f <;> cases placeB t <;> simp) with hp | ⟨hf, ht⟩
    · have HRR : Hid (rngR l f t = []) := by show _ = _; unfold rngR; rw [hEq _ hp]; rfl
      clear hEq
      cases hf : placeB f with
      | false =>
        go_wp2_with (first | (refine wpList_store_row rfl 51 (.tmp 7) (.tmp 12) rfl w1.heap.size (ringArr sl 0 l.length) rfl rfl 51 (ringArr none16 0 0) (heap_alloc_new _ _) hi (sizeRs hl) ringArr_one ?_; show wpList _ _ _ _ _ (stored w1 sl 0 l.length); rw [HWW.out]) | (go_at_call 49; refine (placeOk_any _ _).mono ?_; rintro e w' ⟨rfl, rfl⟩))
        go_ret
        exact ⟨_, rfl, by rw [HRR.out]; exact owns_nil _ _, hB2⟩
      | true =>
        have ht : placeB t = false := by rw [hf] at hp; simpa using hp
        go_wp2_with (first | (refine wpList_store_row rfl 51 (.tmp 7) (.tmp 12) rfl w1.heap.size (ringArr sl 0 l.length) rfl rfl 51 (ringArr none16 0 0) (heap_alloc_new _ _) hi (sizeRs hl) ringArr_one ?_; show wpList _ _ _ _ _ (stored w1 sl 0 l.length); rw [HWW.out]) | (go_at_call 49; refine (placeOk_any _ _).mono ?_; rintro e w' ⟨rfl, rfl⟩))
        go_ret
        exact ⟨_, rfl, by rw [HRR.out]; exact owns_nil _ _, hB2⟩
    · have HRR : Hid (rngR l f t = rng l f t) := by show _ = _; unfold rngR; rw [hEq true (by rw [hf, ht]; rfl)]; rfl
      clear hEq
      have bf := place_bd hf
      have bt := place_bd ht
      have hends := ends_le (n := l.length) f t
      go_wp2_with (first | (refine wpList_store_row rfl 51 (.tmp 7) (.tmp 12) rfl w1.heap.size (ringArr sl 0 l.length) rfl rfl 51 (ringArr none16 0 0) (heap_alloc_new _ _) hi (sizeRs hl) ringArr_one ?_; show wpList _ _ _ _ _ (stored w1 sl 0 l.length); rw [HWW.out]) | (go_at_call 49; refine (placeOk_any _ _).mono ?_; rintro e w' ⟨rfl, rfl⟩) | (go_at_call 51; refine (placesBetween_any _ _ _ _ (by omega) (by omega) bf bt).mono ?_; rintro e w' ⟨rfl, rfl⟩))
      refine (between_any w1.heap.size 0 l.length sl _ _ _ hR hends.1 (by omega)).mono ?_
      rintro e w3 ⟨u, rfl, ho, hB3⟩
      rw [seg_rng hends.1 hends.2, HL.out] at ho
      have hsz2 := hB2.size
      have hB4 := hB2.trans (hB3.mono hsz2)
      have ho2 := owns_base ho hsz2
      clear ho hB3
      go_wp2_with fail
      go_ret
      exact ⟨_, rfl, by rw [HRR.out]; exact ho2, hB4⟩

/-- the same, of the model -/
theorem owns_new (w : World) : Owns (w.alloc (.cells #[] 9)) w.heap.size (.slice (some ⟨w.heap.size, 0, none⟩) 0 0) [] := World.ownsRow_lit w #[] 0 (Nat.le_refl _) (by simp) rfl
theorem below_new (w : World) : Below w.heap.size w (w.alloc (.cells #[] 9)) := (Below.refl _ _).alloc (Nat.le_refl _) _

set_option maxHeartbeats 4000000 in
theorem specRange_bad (v : Value) (l : List ByteArray) (f t : Int) (w : World) (hr : Reads w v l) (hlen : l.length ≤ 1048576) (hb : rngB l f t = false) :
    Calls Try.prog 24 #[v, .int .i64 f, .int .i64 t] w fun e w' => ∃ u, e = .returned u ∧ Owns w' w.heap.size u [] ∧ Below w.heap.size w w' := by
  have ho := owns_new w
  have hB := below_new w
  cases hok : okB l with
  | false =>
    go_enter Try.func24, Try.ntmps24
    go_wp2_with (first | (go_at_call 40; refine (l2Texts_any _ l _ hr hlen).mono ?_; rintro e w' ⟨rfl, rfl⟩) | (go_at_call 47; refine (l2Place_any _ _).mono ?_; rintro e w' ⟨rfl, rfl⟩))
    go_ret
    exact ⟨_, rfl, ho, hB⟩
  | true =>
    cases hf : placeB f with
    | false =>
      go_enter Try.func24, Try.ntmps24
      go_wp2_with (first | (go_at_call 40; refine (l2Texts_any _ l _ hr hlen).mono ?_; rintro e w' ⟨rfl, rfl⟩) | (go_at_call 47; refine (l2Place_any _ _).mono ?_; rintro e w' ⟨rfl, rfl⟩))
      go_ret
      exact ⟨_, rfl, ho, hB⟩
    | true =>
      have ht : placeB t = false := by unfold rngB at hb; rw [hok, hf] at hb; simpa using hb
      go_enter Try.func24, Try.ntmps24
      go_wp2_with (first | (go_at_call 40; refine (l2Texts_any _ l _ hr hlen).mono ?_; rintro e w' ⟨rfl, rfl⟩) | (go_at_call 47; refine (l2Place_any _ _).mono ?_; rintro e w' ⟨rfl, rfl⟩))
      go_ret
      exact ⟨_, rfl, ho, hB⟩

set_option maxHeartbeats 4000000 in
theorem specRange_ok (v : Value) (l : List ByteArray) (f t : Int) (w : World) (hr : Reads w v l) (hok : okB l = true) (hf : placeB f = true) (ht : placeB t = true) :
    Calls Try.prog 24 #[v, .int .i64 f, .int .i64 t] w fun e w' => ∃ u, e = .returned u ∧ Owns w' w.heap.size u (rng l f t) ∧ Below w.heap.size w w' := by
  have hn : l.length ≤ 16 := by unfold okB at hok; simp at hok; exact hok.1
  have bf := place_bd hf
  have bt := place_bd ht
  have hends := ends_le (n := l.length) f t
  have hr0 := hr
  rcases hr with ⟨rfl, ao, cap, rfl, hcap⟩ | ⟨h0, b, off, cap, rfl, hb, hnc, hcm, hc⟩
  · have hrg : rng [] f t = [] := by simp [rng]
    rw [hrg]
    have e1 : endE 0 f t = 0 := by have := hends.2; simp at this; exact this
    have e2 : endA 0 f t = 0 := by have := hends.1; simp [e1] at this; exact this
    clear hends
    go_enter Try.func24, Try.ntmps24
    go_wp2_with (first | (go_at_call 40; refine (l2Texts_any _ [] _ hr0 (by simp)).mono ?_; rintro e w' ⟨rfl, rfl⟩) | (go_at_call 47; refine (l2Place_any _ _).mono ?_; rintro e w' ⟨rfl, rfl⟩) | (go_at_call 48; refine (l2Ends_any _ _ _ _ (by omega) (by omega) bf bt).mono ?_; rintro e w' ⟨rfl, rfl⟩))
    refine (copy_any _ [] _ hr0 (by simp)).mono ?_
    rintro e w3 ⟨u, rfl, ho3, hb3⟩
    go_wp2_with fail
    go_ret
    exact ⟨_, rfl, ho3, hb3⟩
  · obtain ⟨A, hA⟩ : ∃ A, endA l.length f t = A := ⟨_, rfl⟩
    obtain ⟨E, hE⟩ : ∃ E, endE l.length f t = E := ⟨_, rfl⟩
    rw [hA, hE] at hends
    have HR : Hid (rng l f t = (l.take E).drop A) := by show _ = _; unfold rng; rw [hA, hE]
    have hb1 : (0 : Int) ≤ (A : Int) := by omega
    have hb2 : (A : Int) ≤ (E : Int) := by omega
    have hb3 : (E : Int) ≤ (cap : Int) := by omega
    have hcut : ∀ ao n c, (¬ cap = A → ao = some ⟨b, off + A, none⟩) → ao ≠ none → n = E - A → c = cap - A → Reads w (.slice ao n c) ((l.take E).drop A) := fun ao n c h1 h2 h3 h4 =>
      reads_cut hb hnc hcm hc h1 h2 hends.1 hends.2 h3 h4
    have hlt : ((l.take E).drop A).length ≤ 1048576 := by simp; omega
    unfold maxLen at hcm
    go_enter Try.func24, Try.ntmps24
    go_wp2_with (first | (go_at_call 40; refine (l2Texts_any _ l _ hr0 (by omega)).mono ?_; rintro e w' ⟨rfl, rfl⟩) | (go_at_call 47; refine (l2Place_any _ _).mono ?_; rintro e w' ⟨rfl, rfl⟩) | (go_at_call 48; refine (l2Ends_any _ _ _ _ (by omega) (by omega) bf bt).mono ?_; rintro e w' ⟨rfl, rfl⟩))
    all_goals
      refine (copy_any _ ((l.take E).drop A) _ (hcut _ _ _ (by intro h; first | rfl | exact absurd rfl h | omega) (by intro h; cases h) (by first | rfl | omega) (by first | rfl | omega)) hlt).mono ?_
      rintro e w3 ⟨u, rfl, ho3, hb3⟩
      go_wp2_with fail
      go_ret
      exact ⟨_, rfl, by rw [HR.out]; exact ho3, hb3⟩
theorem specRange_any (v : Value) (l : List ByteArray) (f t : Int) (w : World) (hr : Reads w v l) (hlen : l.length ≤ 1048576) :
    Calls Try.prog 24 #[v, .int .i64 f, .int .i64 t] w fun e w' => ∃ u, e = .returned u ∧ Owns w' w.heap.size u (rngR l f t) ∧ Below w.heap.size w w' := by
  cases hb : rngB l f t with
  | false => unfold rngR; rw [hb]; exact specRange_bad v l f t w hr hlen hb
  | true =>
    have hb' := hb
    unfold rngB at hb'; rw [Bool.and_eq_true, Bool.and_eq_true] at hb'
    unfold rngR; rw [hb]; exact specRange_ok v l f t w hr hb'.1.1 hb'.1.2 hb'.2
theorem rngR_len (l : List ByteArray) (f t : Int) (h : l.length ≤ 1048576) : (rngR l f t).length ≤ 1048576 := by
  unfold rngR rng; split
  · simp; omega
  · simp
theorem specTrim_any (v : Value) (l : List ByteArray) (f t : Int) (w : World) (hr : Reads w v l) (hlen : l.length ≤ 1048576) :
    Calls Try.prog 26 #[v, .int .i64 f, .int .i64 t] w fun e w' => ∃ u, e = .returned u ∧ Owns w' w.heap.size u (rngR l f t) ∧ Below w.heap.size w w' := by
  go_enter Try.func26, Try.ntmps26
  go_wp2_with fail
  refine (specRange_any v l f t _ hr hlen).mono ?_
  rintro e w3 ⟨u, rfl, ho3, hb3⟩
  go_wp2_with fail
  go_ret
  exact ⟨_, rfl, ho3, hb3⟩
theorem implTrim_any (v : Value) (l : List ByteArray) (f t : Int) (w : World) (hr : Reads w v l) (hlen : l.length ≤ 1048576) :
    Calls Try.prog 27 #[v, .int .i64 f, .int .i64 t] w fun e w' => ∃ u, e = .returned u ∧ Owns w' w.heap.size u (rngR l f t) ∧ Below w.heap.size w w' := by
  go_enter Try.func27, Try.ntmps27
  go_wp2_with fail
  refine (implRange_any v l f t _ hr hlen).mono ?_
  rintro e w3 ⟨u, rfl, ho3, hb3⟩
  go_wp2_with fail
  go_ret
  exact ⟨_, rfl, ho3, hb3⟩
end Go.Proofs.Ytjgnfneondlhhaa
