/- ListRange, the program's (a seat with scores). -/
import Derived.Test.YtkoheomkledleaaPlcS
import Derived.Test.YtkoheomkledleaaPopI
import Derived.Test.YtkoheomkledleaaCopyS
namespace Go.Proofs.Ytkoheomkledleaa
open Go.RowKit

def rng (l : List ByteArray) (f t : Int) : List ByteArray := (l.take (endE l.length f t)).drop (endA l.length f t)
def rngB (l : List ByteArray) (f t : Int) : Bool := okB l && placeB f && placeB t
def rngR (l : List ByteArray) (f t : Int) : List ByteArray := if rngB l f t = true then rng l f t else []
theorem seg_rng {sl : List ByteArray} {n a e : Nat} (h1 : a ≤ e) (h2 : e ≤ n) : seg sl 0 a (e - a) = ((ringL sl 0 n).take e).drop a := by
  unfold seg ringL
  apply List.ext_getElem
  · simp; omega
  · intro i h3 h4
    simp

set_option maxHeartbeats 4000000 in
theorem implRange_any (v : Value) (l : List ByteArray) (f t : Int) (w : World) (hr : Reads w v l) (hlen : l.length ≤ 1048576) :
    Calls Try.prog 28 #[v, .int .i64 f, .int .i64 t] w fun e w' => ∃ u, e = .returned u ∧ Owns w' w.heap.size u (rngR l f t) ∧ Below w.heap.size w w' := by
  cases hok : okB l with
  | false =>
    have hR : rngR l f t = [] := by unfold rngR rngB; rw [hok]; rfl
    rw [hR]
    clear hR
    go_enter Try.func28, Try.ntmps28
    go_wp2_with fail
    refine (ringOf_bad v l _ hr hlen hok).mono ?_
    rintro e w1 ⟨rfl, hB⟩
    have hsz := hB.size
    have hi := infoRs (f := 0) (n := 0) (sl := none16) rfl
    go_wp2_with (refine wpList_store_row rfl 88 (.tmp 7) (.tmp 12) rfl w1.heap.size (ringArr none16 0 0) rfl rfl 88 (ringArr none16 0 0) (heap_alloc_new _ _) hi rfl ringArr_one ?_; show wpList _ _ _ _ _ (stored w1 none16 0 0))
    go_ret
    exact ⟨_, rfl, owns_nil _ _, below_stored hB hsz _ _ _⟩
  | true =>
    have hn : l.length ≤ 16 := by unfold okB at hok; simp at hok; exact hok.1
    have hEq : ∀ b, (placeB f && placeB t) = b → rngB l f t = b := fun b h => by unfold rngB; rw [hok]; simpa using h
    go_enter Try.func28, Try.ntmps28
    go_wp2_with fail
    refine (ringOf_ok v l _ hr hok).mono ?_
    rintro e w1 ⟨sl, rfl, hl, hL, hB⟩
    have hsz := hB.size
    have hi := infoRs (f := 0) (n := l.length) hl
    have hR := ring_stored w1 hl (f := 0) (n := l.length) (by omega) hn
    have hc := ring_size hR
    have hB2 := below_stored hB hsz sl 0 l.length
    have HL : Hid (ringL sl 0 l.length = l) := hL
    have hs2 := stored_size w1 sl 0 l.length
    clear hL hr hok hB
    generalize hW : stored w1 sl 0 l.length = w2 at *
    have HWW : Hid (stored w1 sl 0 l.length = w2) := hW
    clear hW
    rcases (show (placeB f && placeB t) = false ∨ (placeB f = true ∧ placeB t = true) by cases placeB f <;> cases placeB t <;> simp) with hp | ⟨hf, ht⟩
    · have HRR : Hid (rngR l f t = []) := by show _ = _; unfold rngR; rw [hEq _ hp]; rfl
      clear hEq
      cases hf : placeB f with
      | false =>
        go_wp2_with (first | (refine wpList_store_row rfl 88 (.tmp 7) (.tmp 12) rfl w1.heap.size (ringArr sl 0 l.length) rfl rfl 88 (ringArr none16 0 0) (heap_alloc_new _ _) hi (sizeRs hl) ringArr_one ?_; show wpList _ _ _ _ _ (stored w1 sl 0 l.length); rw [HWW.out]) | (go_at_call 54; refine (placeN_any _ _).mono ?_; rintro e w' ⟨rfl, rfl⟩))
        go_ret
        exact ⟨_, rfl, by rw [HRR.out]; exact owns_nil _ _, hB2⟩
      | true =>
        have ht : placeB t = false := by rw [hf] at hp; simpa using hp
        go_wp2_with (first | (refine wpList_store_row rfl 88 (.tmp 7) (.tmp 12) rfl w1.heap.size (ringArr sl 0 l.length) rfl rfl 88 (ringArr none16 0 0) (heap_alloc_new _ _) hi (sizeRs hl) ringArr_one ?_; show wpList _ _ _ _ _ (stored w1 sl 0 l.length); rw [HWW.out]) | (go_at_call 54; refine (placeN_any _ _).mono ?_; rintro e w' ⟨rfl, rfl⟩))
        go_ret
        exact ⟨_, rfl, by rw [HRR.out]; exact owns_nil _ _, hB2⟩
    · have HRR : Hid (rngR l f t = rng l f t) := by show _ = _; unfold rngR; rw [hEq true (by rw [hf, ht]; rfl)]; rfl
      clear hEq
      have bf := place_bd hf
      have bt := place_bd ht
      have hends := ends_le (n := l.length) f t
      go_wp2_with (first | (refine wpList_store_row rfl 88 (.tmp 7) (.tmp 12) rfl w1.heap.size (ringArr sl 0 l.length) rfl rfl 88 (ringArr none16 0 0) (heap_alloc_new _ _) hi (sizeRs hl) ringArr_one ?_; show wpList _ _ _ _ _ (stored w1 sl 0 l.length); rw [HWW.out]) | (go_at_call 54; refine (placeN_any _ _).mono ?_; rintro e w' ⟨rfl, rfl⟩) | (go_at_call 55; refine (placesBetween_any _ _ _ _ (by omega) (by omega) bf bt).mono ?_; rintro e w' ⟨rfl, rfl⟩))
      refine (between_any w1.heap.size 0 l.length sl _ _ _ hR hends.1 (by omega)).mono ?_
      rintro e w3 ⟨u, rfl, ho, hB3⟩
      rw [seg_rng hends.1 hends.2, HL.out] at ho
      have hsz2 := hB2.size
      have hB4 := hB2.trans (hB3.mono hsz2)
      have ho2 := owns_base ho hsz2
      clear ho hB3
      go_wp2_with fail
      go_ret
      exact ⟨_, rfl, by rw [HRR.out]; exact ho2, hB4⟩

end Go.Proofs.Ytkoheomkledleaa
