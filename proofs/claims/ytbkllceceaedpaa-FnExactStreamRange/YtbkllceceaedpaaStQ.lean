/- The program's ordered maps: are the keys ascending. -/
import Derived.Test.YtbkllceceaedpaaStP
import Derived.Deep.RegionHeld3
import Derived.Test.YtbkllceceaedpaaTk
namespace Go.Proofs.Ytbkllceceaedpaa
open Go.RowKit
set_option linter.unusedVariables false

/-- ascending: each ahead of the next -/
def ascU {α : Type} (lt : α → α → Bool) (n : Nat) (f : Nat → α) : Bool := (List.range (n - 1)).all (fun j => lt (f j) (f (j + 1)))
theorem ascU_iff {α : Type} {lt : α → α → Bool} {n : Nat} {f : Nat → α} : ascU lt n f = true ↔ ∀ j, j + 1 < n → lt (f j) (f (j + 1)) = true := by
  unfold ascU
  rw [List.all_eq_true]
  constructor
  · intro h j hn
    exact h j (List.mem_range.2 (by omega))
  · intro h j hj
    exact h j (by have := List.mem_range.1 hj; omega)
theorem ascU_not {α : Type} {lt : α → α → Bool} {n : Nat} {f : Nat → α} {k : Nat} (hk : k + 1 < n) (h : lt (f k) (f (k + 1)) = false) : ascU lt n f = false := by
  rw [Bool.eq_false_iff]
  intro hh
  rw [ascU_iff.1 hh k hk] at h
  cases h
theorem ascU_congr {α : Type} {lt : α → α → Bool} {n m : Nat} {f g : Nat → α} (hn : n = m) (h : ∀ j, j < n → f j = g j) : ascU lt n f = ascU lt m g := by
  subst hn
  rw [Bool.eq_iff_iff, ascU_iff, ascU_iff]
  constructor
  · intro hh j hj
    have := hh j hj
    rwa [h _ (by omega), h _ hj] at this
  · intro hh j hj
    rw [h _ (by omega), h _ hj]
    exact hh j hj
def ltN (a b : ByteArray) : Bool := Op.bytesLess a.toList b.toList
theorem ordLt {x : Int} {b c : Bool} (hG : decide (0 ≤ x) = b) (ho : decide (x < 0) = c) : c = !b := by
  rw [← hG, ← ho, Bool.eq_iff_iff]; simp
theorem stHeld {wr w2 w3 : World} {a b c : Prop} (h3 : Below w2.heap.size w2 w3) (hh : a ∧ b ∧ c ∧ Below wr.heap.size wr w2) : Below wr.heap.size wr w3 := hh.2.2.2.trans (h3.mono hh.2.2.2.size)
theorem cells3 {w : World} {B : Nat} {x y z : Value} {t : TypeId} {fr : Nat × Nat} (h : w.heap[B]? = some (.cells #[x, y, z] t fr)) : w.cell? ⟨B, 0, none⟩ = some x ∧ w.cell? ⟨B, 1, none⟩ = some y ∧ w.cell? ⟨B, 2, none⟩ = some z :=
  ⟨cellAt_row h 0, cellAt_row h 1, cellAt_row h 2⟩

set_option maxHeartbeats 8000000 in
set_option maxRecDepth 100000 in
theorem okItems_any (v : Value) (l : List ItRow) (w : World) (hr : ReadsR itC 3 w v l) (hlen : l.length ≤ 1048576) :
    Calls Try.prog 40 #[.agg #[v, .func (.func 71) #[] #[], .func (.func 72) #[] #[]]] w fun e w' => e = .returned (.bool (ascU idLessB l.length (fun j => ((itAt l j).e.t, (itAt l j).e.n)))) ∧ Below w.heap.size w w' := by
  obtain ⟨ao, cap, rfl⟩ := readsR_shape hr
  obtain ⟨w0, hW⟩ : ∃ W, w.alloc (.cells #[.slice ao l.length cap, .func (.func 71) #[] #[], .func (.func 72) #[] #[]] 71) = W := ⟨_, rfl⟩
  have hB0 : Below w.heap.size w w0 := by rw [← hW]; exact (Below.refl _ w).alloc (Nat.le_refl _) _
  have hz0 : w.heap.size < w0.heap.size := by rw [← hW]; simp
  have Q0 : Hid (w0.heap[w.heap.size]? = some (.cells #[.slice ao l.length cap, .func (.func 71) #[] #[], .func (.func 72) #[] #[]] 71 (0, 0))) := by show _ = _; rw [← hW]; exact heap_alloc_new _ _
  go_enter Try.func40, Try.ntmps40
  go_wp2_with fail
  clear hW
  go_loopw [3] (fun i wr => ∃ k : Nat, (k + 1 ≤ l.length ∨ k = 0) ∧ i = .int .i64 ((k : Int) + 1) ∧ Hid (∀ j, j < k → j + 1 < l.length → idLessB ((fun j => ((itAt l j).e.t, (itAt l j).e.n)) j) ((fun j => ((itAt l j).e.t, (itAt l j).e.n)) (j + 1)) = true) ∧ Below w0.heap.size w0 wr) (fun i _ => l.length - (intOf i).toNat)
  case atStart => exact ⟨0, .inr rfl, rfl, fun j h0 h1 => by omega, Below.refl _ _⟩
  case round =>
    obtain ⟨k, hk2, rfl, HA, hbr⟩ := hrel
    have hB := hB0.trans (hbr.mono hB0.size)
    have qr := (hbr.block w.heap.size hz0).trans Q0.out
    obtain ⟨x0, x1, x2⟩ := cells3 qr
    by_cases hlt : k + 1 < l.length
    · obtain ⟨b, off, rfl, hb, hnc, hcm, hc⟩ := it_some hr (by omega)
      have hz := hbr.size
      have HK : Hid (∀ w', Below wr.heap.size wr w' → (w'.cell? ⟨w.heap.size, 0, none⟩ = some (.slice (some ⟨b, off, none⟩) l.length cap) ∧ w'.cell? ⟨w.heap.size, 1, none⟩ = some (.func (.func 71) #[] #[]) ∧ w'.cell? ⟨w.heap.size, 2, none⟩ = some (.func (.func 72) #[] #[])) ∧ (w'.cell? ⟨b, off + k * 3, none⟩ = some (.int .i64 (itAt l k).e.t) ∧ w'.cell? ⟨b, off + k * 3 + 1, none⟩ = some (.int .i64 (itAt l k).e.n) ∧ w'.cell? ⟨b, off + k * 3 + 2, none⟩ = some (.slice (itAt l k).a (itAt l k).e.l.length (itAt l k).c)) ∧ (w'.cell? ⟨b, off + (k + 1) * 3, none⟩ = some (.int .i64 (itAt l (k + 1)).e.t) ∧ w'.cell? ⟨b, off + (k + 1) * 3 + 1, none⟩ = some (.int .i64 (itAt l (k + 1)).e.n) ∧ w'.cell? ⟨b, off + (k + 1) * 3 + 2, none⟩ = some (.slice (itAt l (k + 1)).a (itAt l (k + 1)).e.l.length (itAt l (k + 1)).c)) ∧ Below wr.heap.size wr w') := fun w' h =>
        ⟨cells3 ((h.block w.heap.size (by omega)).trans qr), it_cells hc (hB.trans (h.mono hB.size)) hb (by omega), it_cells hc (hB.trans (h.mono hB.size)) hb hlt, h⟩
      have hki : (k : Int) + 1 < (l.length : Int) := by omega
      have hk3 : (k : Int) < (l.length : Int) := by omega
      have hk4 : (0 : Int) ≤ (k : Int) := by omega
      have hk5 : (0 : Int) ≤ (k : Int) + 1 := by omega
      have hw : IntKind.i64.wrap (k : Int) = (k : Int) := wrap_id64 (by omega) (by omega)
      have hw2 : IntKind.i64.wrap ((k : Int) + 1 - 1) = (k : Int) := by rw [show (k : Int) + 1 - 1 = k by omega]; exact hw
      clear hc hnc hcm qr
      go_wp2_with fail
      clear x0 x1 x2
      go_region_held3 (fun w' => (w'.cell? ⟨w.heap.size, 0, none⟩ = some (.slice (some ⟨b, off, none⟩) l.length cap) ∧ w'.cell? ⟨w.heap.size, 1, none⟩ = some (.func (.func 71) #[] #[]) ∧ w'.cell? ⟨w.heap.size, 2, none⟩ = some (.func (.func 72) #[] #[])) ∧ (w'.cell? ⟨b, off + k * 3, none⟩ = some (.int .i64 (itAt l k).e.t) ∧ w'.cell? ⟨b, off + k * 3 + 1, none⟩ = some (.int .i64 (itAt l k).e.n) ∧ w'.cell? ⟨b, off + k * 3 + 2, none⟩ = some (.slice (itAt l k).a (itAt l k).e.l.length (itAt l k).c)) ∧ (w'.cell? ⟨b, off + (k + 1) * 3, none⟩ = some (.int .i64 (itAt l (k + 1)).e.t) ∧ w'.cell? ⟨b, off + (k + 1) * 3 + 1, none⟩ = some (.int .i64 (itAt l (k + 1)).e.n) ∧ w'.cell? ⟨b, off + (k + 1) * 3 + 2, none⟩ = some (.slice (itAt l (k + 1)).a (itAt l (k + 1)).e.l.length (itAt l (k + 1)).c)) ∧ Below wr.heap.size wr w') (first | exact HK.out _ (Below.refl _ _).drew | assumption | go_keep) (first
        | (go_at_call 71; refine (itemId_any _ _ _ _ _ _).mono ?_; rintro e w3 ⟨rfl, hb3⟩; have hk3 := HK.out _ (stHeld hb3 ‹_›))
        | (go_at_call 72; refine (idOrder_ab _ _ _ _ _).mono ?_; rintro e w3 ⟨rfl, hb3⟩; have hk3 := HK.out _ (stHeld hb3 ‹_›)))
      have hB3 : Below w.heap.size w w3 := hB.trans (hk3.2.2.2.mono hB.size)
      have hbr3 : Below w0.heap.size w0 w3 := hbr.trans (hk3.2.2.2.mono hbr.size)
      clear hk3 HK
      cases hG : decide (0 ≤ idOrd ((itAt l k).e.t, (itAt l k).e.n) ((itAt l (k + 1)).e.t, (itAt l (k + 1)).e.n)) with
      | false =>
        have HL : Hid (idLessB ((fun j => ((itAt l j).e.t, (itAt l j).e.n)) k) ((fun j => ((itAt l j).e.t, (itAt l j).e.n)) (k + 1)) = true) := ordLt hG (idOrd_less _ _)
        clear hG
        go_wp2_with fail
        go_roundw
        case rel => exact ⟨k + 1, .inl hlt, by go_num, fun j h0 h1 => by
          by_cases e : j = k
          · rw [e]; exact HL.out
          · exact HA.out j (by omega) h1, hbr3⟩
        case measure => simp [intOf]; omega
      | true =>
        have HF : Hid (ascU idLessB l.length (fun j => ((itAt l j).e.t, (itAt l j).e.n)) = false) := ascU_not hlt (ordLt hG (idOrd_less _ _))
        clear hG
        go_wp2_with fail
        go_ret
        exact ⟨by rw [HF.out]; rfl, hB3⟩
    · have HF : Hid (ascU idLessB l.length (fun j => ((itAt l j).e.t, (itAt l j).e.n)) = true) := ascU_iff.2 (fun j hj => HA.out j (by omega) hj)
      have hki : ¬ (k : Int) + 1 < (l.length : Int) := by omega
      go_wp2_with fail
      go_ret
      exact ⟨by rw [HF.out]; rfl, hB⟩

set_option maxHeartbeats 8000000 in
set_option maxRecDepth 100000 in
theorem okGroups_any (v : Value) (l : List GpRow) (w : World) (hr : ReadsR gpC 4 w v l) (hlen : l.length ≤ 1048576) :
    Calls Try.prog 42 #[.agg #[v, .func (.func 73) #[] #[], .func (.func 74) #[] #[]]] w fun e w' => e = .returned (.bool (ascU ltN l.length (fun j => (gpAt l j).e.name))) ∧ Below w.heap.size w w' := by
  obtain ⟨ao, cap, rfl⟩ := readsR_shape hr
  obtain ⟨w0, hW⟩ : ∃ W, w.alloc (.cells #[.slice ao l.length cap, .func (.func 73) #[] #[], .func (.func 74) #[] #[]] 77) = W := ⟨_, rfl⟩
  have hB0 : Below w.heap.size w w0 := by rw [← hW]; exact (Below.refl _ w).alloc (Nat.le_refl _) _
  have hz0 : w.heap.size < w0.heap.size := by rw [← hW]; simp
  have Q0 : Hid (w0.heap[w.heap.size]? = some (.cells #[.slice ao l.length cap, .func (.func 73) #[] #[], .func (.func 74) #[] #[]] 77 (0, 0))) := by show _ = _; rw [← hW]; exact heap_alloc_new _ _
  go_enter Try.func42, Try.ntmps42
  go_wp2_with fail
  clear hW
  go_loopw [3] (fun i wr => ∃ k : Nat, (k + 1 ≤ l.length ∨ k = 0) ∧ i = .int .i64 ((k : Int) + 1) ∧ Hid (∀ j, j < k → j + 1 < l.length → ltN ((fun j => (gpAt l j).e.name) j) ((fun j => (gpAt l j).e.name) (j + 1)) = true) ∧ Below w0.heap.size w0 wr) (fun i _ => l.length - (intOf i).toNat)
  case atStart => exact ⟨0, .inr rfl, rfl, fun j h0 h1 => by omega, Below.refl _ _⟩
  case round =>
    obtain ⟨k, hk2, rfl, HA, hbr⟩ := hrel
    have hB := hB0.trans (hbr.mono hB0.size)
    have qr := (hbr.block w.heap.size hz0).trans Q0.out
    obtain ⟨x0, x1, x2⟩ := cells3 qr
    by_cases hlt : k + 1 < l.length
    · obtain ⟨b, off, rfl, hb, hnc, hcm, hc⟩ := gp_some hr (by omega)
      have hz := hbr.size
      have HK : Hid (∀ w', Below wr.heap.size wr w' → (w'.cell? ⟨w.heap.size, 0, none⟩ = some (.slice (some ⟨b, off, none⟩) l.length cap) ∧ w'.cell? ⟨w.heap.size, 1, none⟩ = some (.func (.func 73) #[] #[]) ∧ w'.cell? ⟨w.heap.size, 2, none⟩ = some (.func (.func 74) #[] #[])) ∧ (w'.cell? ⟨b, off + k * 4, none⟩ = some (.string (gpAt l k).e.name) ∧ w'.cell? ⟨b, off + k * 4 + 1, none⟩ = some (.int .i64 (gpAt l k).e.t) ∧ w'.cell? ⟨b, off + k * 4 + 2, none⟩ = some (.int .i64 (gpAt l k).e.n) ∧ w'.cell? ⟨b, off + k * 4 + 3, none⟩ = some (.slice (gpAt l k).a (gpAt l k).e.l.length (gpAt l k).c)) ∧ (w'.cell? ⟨b, off + (k + 1) * 4, none⟩ = some (.string (gpAt l (k + 1)).e.name) ∧ w'.cell? ⟨b, off + (k + 1) * 4 + 1, none⟩ = some (.int .i64 (gpAt l (k + 1)).e.t) ∧ w'.cell? ⟨b, off + (k + 1) * 4 + 2, none⟩ = some (.int .i64 (gpAt l (k + 1)).e.n) ∧ w'.cell? ⟨b, off + (k + 1) * 4 + 3, none⟩ = some (.slice (gpAt l (k + 1)).a (gpAt l (k + 1)).e.l.length (gpAt l (k + 1)).c)) ∧ Below wr.heap.size wr w') := fun w' h =>
        ⟨cells3 ((h.block w.heap.size (by omega)).trans qr), gp_cells hc (hB.trans (h.mono hB.size)) hb (by omega), gp_cells hc (hB.trans (h.mono hB.size)) hb hlt, h⟩
      have hki : (k : Int) + 1 < (l.length : Int) := by omega
      have hk3 : (k : Int) < (l.length : Int) := by omega
      have hk4 : (0 : Int) ≤ (k : Int) := by omega
      have hk5 : (0 : Int) ≤ (k : Int) + 1 := by omega
      have hw : IntKind.i64.wrap (k : Int) = (k : Int) := wrap_id64 (by omega) (by omega)
      have hw2 : IntKind.i64.wrap ((k : Int) + 1 - 1) = (k : Int) := by rw [show (k : Int) + 1 - 1 = k by omega]; exact hw
      clear hc hnc hcm qr
      go_wp2_with fail
      clear x0 x1 x2
      go_region_held3 (fun w' => (w'.cell? ⟨w.heap.size, 0, none⟩ = some (.slice (some ⟨b, off, none⟩) l.length cap) ∧ w'.cell? ⟨w.heap.size, 1, none⟩ = some (.func (.func 73) #[] #[]) ∧ w'.cell? ⟨w.heap.size, 2, none⟩ = some (.func (.func 74) #[] #[])) ∧ (w'.cell? ⟨b, off + k * 4, none⟩ = some (.string (gpAt l k).e.name) ∧ w'.cell? ⟨b, off + k * 4 + 1, none⟩ = some (.int .i64 (gpAt l k).e.t) ∧ w'.cell? ⟨b, off + k * 4 + 2, none⟩ = some (.int .i64 (gpAt l k).e.n) ∧ w'.cell? ⟨b, off + k * 4 + 3, none⟩ = some (.slice (gpAt l k).a (gpAt l k).e.l.length (gpAt l k).c)) ∧ (w'.cell? ⟨b, off + (k + 1) * 4, none⟩ = some (.string (gpAt l (k + 1)).e.name) ∧ w'.cell? ⟨b, off + (k + 1) * 4 + 1, none⟩ = some (.int .i64 (gpAt l (k + 1)).e.t) ∧ w'.cell? ⟨b, off + (k + 1) * 4 + 2, none⟩ = some (.int .i64 (gpAt l (k + 1)).e.n) ∧ w'.cell? ⟨b, off + (k + 1) * 4 + 3, none⟩ = some (.slice (gpAt l (k + 1)).a (gpAt l (k + 1)).e.l.length (gpAt l (k + 1)).c)) ∧ Below wr.heap.size wr w') (first | exact HK.out _ (Below.refl _ _).drew | assumption | go_keep) (first
        | (go_at_call 73; refine (groupName_any _ _ _ _ _ _ _).mono ?_; rintro e w3 ⟨rfl, hb3⟩; have hk3 := HK.out _ (stHeld hb3 ‹_›))
        | (go_at_call 74; refine (cmpStr_any _ _ _).mono ?_; rintro e w3 ⟨rfl, rfl⟩))
      have hB3 : Below w.heap.size w w3 := hB.trans (hk3.2.2.2.mono hB.size)
      have hbr3 : Below w0.heap.size w0 w3 := hbr.trans (hk3.2.2.2.mono hbr.size)
      clear hk3 HK
      cases hG : decide (0 ≤ cmpT (gpAt l k).e.name (gpAt l (k + 1)).e.name) with
      | false =>
        have HL : Hid (ltN ((fun j => (gpAt l j).e.name) k) ((fun j => (gpAt l j).e.name) (k + 1)) = true) := ordLt hG (cmpT_lt _ _)
        clear hG
        go_wp2_with fail
        go_roundw
        case rel => exact ⟨k + 1, .inl hlt, by go_num, fun j h0 h1 => by
          by_cases e : j = k
          · rw [e]; exact HL.out
          · exact HA.out j (by omega) h1, hbr3⟩
        case measure => simp [intOf]; omega
      | true =>
        have HF : Hid (ascU ltN l.length (fun j => (gpAt l j).e.name) = false) := ascU_not hlt (ordLt hG (cmpT_lt _ _))
        clear hG
        go_wp2_with fail
        go_ret
        exact ⟨by rw [HF.out]; rfl, hB3⟩
    · have HF : Hid (ascU ltN l.length (fun j => (gpAt l j).e.name) = true) := ascU_iff.2 (fun j hj => HA.out j (by omega) hj)
      have hki : ¬ (k : Int) + 1 < (l.length : Int) := by omega
      go_wp2_with fail
      go_ret
      exact ⟨by rw [HF.out]; rfl, hB⟩

set_option maxHeartbeats 8000000 in
set_option maxRecDepth 100000 in
theorem okWaits_any (v : Value) (l : List Wt) (w : World) (hr : ReadsR wtC 5 w v l) (hlen : l.length ≤ 1048576) :
    Calls Try.prog 78 #[.agg #[v, .func (.func 96) #[] #[], .func (.func 72) #[] #[]]] w fun e w' => e = .returned (.bool (ascU idLessB l.length (fun j => ((wtAt l j).t, (wtAt l j).n)))) ∧ Below w.heap.size w w' := by
  obtain ⟨ao, cap, rfl⟩ := readsR_shape hr
  obtain ⟨w0, hW⟩ : ∃ W, w.alloc (.cells #[.slice ao l.length cap, .func (.func 96) #[] #[], .func (.func 72) #[] #[]] 114) = W := ⟨_, rfl⟩
  have hB0 : Below w.heap.size w w0 := by rw [← hW]; exact (Below.refl _ w).alloc (Nat.le_refl _) _
  have hz0 : w.heap.size < w0.heap.size := by rw [← hW]; simp
  have Q0 : Hid (w0.heap[w.heap.size]? = some (.cells #[.slice ao l.length cap, .func (.func 96) #[] #[], .func (.func 72) #[] #[]] 114 (0, 0))) := by show _ = _; rw [← hW]; exact heap_alloc_new _ _
  go_enter Try.func78, Try.ntmps78
  go_wp2_with fail
  clear hW
  go_loopw [3] (fun i wr => ∃ k : Nat, (k + 1 ≤ l.length ∨ k = 0) ∧ i = .int .i64 ((k : Int) + 1) ∧ Hid (∀ j, j < k → j + 1 < l.length → idLessB ((fun j => ((wtAt l j).t, (wtAt l j).n)) j) ((fun j => ((wtAt l j).t, (wtAt l j).n)) (j + 1)) = true) ∧ Below w0.heap.size w0 wr) (fun i _ => l.length - (intOf i).toNat)
  case atStart => exact ⟨0, .inr rfl, rfl, fun j h0 h1 => by omega, Below.refl _ _⟩
  case round =>
    obtain ⟨k, hk2, rfl, HA, hbr⟩ := hrel
    have hB := hB0.trans (hbr.mono hB0.size)
    have qr := (hbr.block w.heap.size hz0).trans Q0.out
    obtain ⟨x0, x1, x2⟩ := cells3 qr
    by_cases hlt : k + 1 < l.length
    · obtain ⟨b, off, rfl, hb, hnc, hcm, hc⟩ := wt_some hr (by omega)
      have hz := hbr.size
      have HK : Hid (∀ w', Below wr.heap.size wr w' → (w'.cell? ⟨w.heap.size, 0, none⟩ = some (.slice (some ⟨b, off, none⟩) l.length cap) ∧ w'.cell? ⟨w.heap.size, 1, none⟩ = some (.func (.func 96) #[] #[]) ∧ w'.cell? ⟨w.heap.size, 2, none⟩ = some (.func (.func 72) #[] #[])) ∧ (w'.cell? ⟨b, off + k * 5, none⟩ = some (.int .i64 (wtAt l k).t) ∧ w'.cell? ⟨b, off + k * 5 + 1, none⟩ = some (.int .i64 (wtAt l k).n) ∧ w'.cell? ⟨b, off + k * 5 + 2, none⟩ = some (.string (wtAt l k).who) ∧ w'.cell? ⟨b, off + k * 5 + 3, none⟩ = some (.int .i64 (wtAt l k).at_) ∧ w'.cell? ⟨b, off + k * 5 + 4, none⟩ = some (.int .i64 (wtAt l k).times)) ∧ (w'.cell? ⟨b, off + (k + 1) * 5, none⟩ = some (.int .i64 (wtAt l (k + 1)).t) ∧ w'.cell? ⟨b, off + (k + 1) * 5 + 1, none⟩ = some (.int .i64 (wtAt l (k + 1)).n) ∧ w'.cell? ⟨b, off + (k + 1) * 5 + 2, none⟩ = some (.string (wtAt l (k + 1)).who) ∧ w'.cell? ⟨b, off + (k + 1) * 5 + 3, none⟩ = some (.int .i64 (wtAt l (k + 1)).at_) ∧ w'.cell? ⟨b, off + (k + 1) * 5 + 4, none⟩ = some (.int .i64 (wtAt l (k + 1)).times)) ∧ Below wr.heap.size wr w') := fun w' h =>
        ⟨cells3 ((h.block w.heap.size (by omega)).trans qr), wt_cells hc (hB.trans (h.mono hB.size)) hb (by omega), wt_cells hc (hB.trans (h.mono hB.size)) hb hlt, h⟩
      have hki : (k : Int) + 1 < (l.length : Int) := by omega
      have hk3 : (k : Int) < (l.length : Int) := by omega
      have hk4 : (0 : Int) ≤ (k : Int) := by omega
      have hk5 : (0 : Int) ≤ (k : Int) + 1 := by omega
      have hw : IntKind.i64.wrap (k : Int) = (k : Int) := wrap_id64 (by omega) (by omega)
      have hw2 : IntKind.i64.wrap ((k : Int) + 1 - 1) = (k : Int) := by rw [show (k : Int) + 1 - 1 = k by omega]; exact hw
      clear hc hnc hcm qr
      go_wp2_with fail
      clear x0 x1 x2
      go_region_held3 (fun w' => (w'.cell? ⟨w.heap.size, 0, none⟩ = some (.slice (some ⟨b, off, none⟩) l.length cap) ∧ w'.cell? ⟨w.heap.size, 1, none⟩ = some (.func (.func 96) #[] #[]) ∧ w'.cell? ⟨w.heap.size, 2, none⟩ = some (.func (.func 72) #[] #[])) ∧ (w'.cell? ⟨b, off + k * 5, none⟩ = some (.int .i64 (wtAt l k).t) ∧ w'.cell? ⟨b, off + k * 5 + 1, none⟩ = some (.int .i64 (wtAt l k).n) ∧ w'.cell? ⟨b, off + k * 5 + 2, none⟩ = some (.string (wtAt l k).who) ∧ w'.cell? ⟨b, off + k * 5 + 3, none⟩ = some (.int .i64 (wtAt l k).at_) ∧ w'.cell? ⟨b, off + k * 5 + 4, none⟩ = some (.int .i64 (wtAt l k).times)) ∧ (w'.cell? ⟨b, off + (k + 1) * 5, none⟩ = some (.int .i64 (wtAt l (k + 1)).t) ∧ w'.cell? ⟨b, off + (k + 1) * 5 + 1, none⟩ = some (.int .i64 (wtAt l (k + 1)).n) ∧ w'.cell? ⟨b, off + (k + 1) * 5 + 2, none⟩ = some (.string (wtAt l (k + 1)).who) ∧ w'.cell? ⟨b, off + (k + 1) * 5 + 3, none⟩ = some (.int .i64 (wtAt l (k + 1)).at_) ∧ w'.cell? ⟨b, off + (k + 1) * 5 + 4, none⟩ = some (.int .i64 (wtAt l (k + 1)).times)) ∧ Below wr.heap.size wr w') (first | exact HK.out _ (Below.refl _ _).drew | assumption | go_keep) (first
        | (go_at_call 96; refine (waitId_any _ _ _ _ _ _).mono ?_; rintro e w3 ⟨rfl, hb3⟩; have hk3 := HK.out _ (stHeld hb3 ‹_›))
        | (go_at_call 72; refine (idOrder_ab _ _ _ _ _).mono ?_; rintro e w3 ⟨rfl, hb3⟩; have hk3 := HK.out _ (stHeld hb3 ‹_›)))
      have hB3 : Below w.heap.size w w3 := hB.trans (hk3.2.2.2.mono hB.size)
      have hbr3 : Below w0.heap.size w0 w3 := hbr.trans (hk3.2.2.2.mono hbr.size)
      clear hk3 HK
      cases hG : decide (0 ≤ idOrd ((wtAt l k).t, (wtAt l k).n) ((wtAt l (k + 1)).t, (wtAt l (k + 1)).n)) with
      | false =>
        have HL : Hid (idLessB ((fun j => ((wtAt l j).t, (wtAt l j).n)) k) ((fun j => ((wtAt l j).t, (wtAt l j).n)) (k + 1)) = true) := ordLt hG (idOrd_less _ _)
        clear hG
        go_wp2_with fail
        go_roundw
        case rel => exact ⟨k + 1, .inl hlt, by go_num, fun j h0 h1 => by
          by_cases e : j = k
          · rw [e]; exact HL.out
          · exact HA.out j (by omega) h1, hbr3⟩
        case measure => simp [intOf]; omega
      | true =>
        have HF : Hid (ascU idLessB l.length (fun j => ((wtAt l j).t, (wtAt l j).n)) = false) := ascU_not hlt (ordLt hG (idOrd_less _ _))
        clear hG
        go_wp2_with fail
        go_ret
        exact ⟨by rw [HF.out]; rfl, hB3⟩
    · have HF : Hid (ascU idLessB l.length (fun j => ((wtAt l j).t, (wtAt l j).n)) = true) := ascU_iff.2 (fun j hj => HA.out j (by omega) hj)
      have hki : ¬ (k : Int) + 1 < (l.length : Int) := by omega
      go_wp2_with fail
      go_ret
      exact ⟨by rw [HF.out]; rfl, hB⟩
end Go.Proofs.Ytbkllceceaedpaa
