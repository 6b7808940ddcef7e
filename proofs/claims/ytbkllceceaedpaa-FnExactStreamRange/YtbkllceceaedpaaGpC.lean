/- Rows of groups that are the same. -/
import Derived.Test.YtbkllceceaedpaaGpB
namespace Go.Proofs.Ytbkllceceaedpaa
open Go.RowKit
set_option linter.unusedVariables false

theorem gp_map_at {l m : List GpRow} (h : l.map GpRow.e = m.map GpRow.e) {k : Nat} (hk : k < l.length) : (gpAt l k).e = (gpAt m k).e := by
  have hl : l.length = m.length := by have := congrArg List.length h; simpa using this
  have := congrArg (fun q => q[k]?) h
  simp only [List.getElem?_map] at this
  rw [gpAt_some hk, gpAt_some (by omega)] at this
  simpa using this
theorem gp_small_map {l m : List GpRow} (h : l.map GpRow.e = m.map GpRow.e) (hs : GpsSmall m) : GpsSmall l := by
  have hl : l.length = m.length := by have := congrArg List.length h; simpa using this
  refine ⟨by rw [hl]; exact hs.len, fun x hx => ?_⟩
  have : x.e ∈ l.map GpRow.e := List.mem_map.2 ⟨x, hx, rfl⟩
  rw [h] at this
  obtain ⟨y, hy, he⟩ := List.mem_map.1 this
  rw [← he]; exact hs.each y hy
theorem eqGroup_same (x y : GpE) (v u : Value) (w : World) (he : x = y) (hr : WtReads w v x.l) (hq : WtReads w u y.l) (hlen : x.l.length ≤ 1048576) :
    Calls Try.prog 79 #[gpV x v, gpV y u] w fun e w' => e = .returned (.bool true) ∧ Below w.heap.size w w' := by
  subst he; exact eqGroup_true x v u w hr hq hlen
theorem gp_held {wr w2 w3 : World} {a b : Prop} (h3 : Below w2.heap.size w2 w3) (hh : a ∧ b ∧ Below wr.heap.size wr w2) : Below wr.heap.size wr w3 := hh.2.2.trans (h3.mono hh.2.2.size)
theorem gp_heldB {wr w2 : World} {a b : Prop} (hh : a ∧ b ∧ Below wr.heap.size wr w2) : Below wr.heap.size wr w2 := hh.2.2
set_option maxHeartbeats 8000000 in
theorem eqGroupS_true (v u : Value) (l m : List GpRow) (w : World) (hr : GpsReads w v l) (hq : GpsReads w u m) (hs : GpsSmall l) (he : l.map GpRow.e = m.map GpRow.e) :
    Calls Try.prog 47 #[v, u] w fun x w' => x = .returned (.bool true) ∧ Below w.heap.size w w' := by
  obtain ⟨ao, cap, rfl⟩ := readsR_shape hr.rows
  obtain ⟨ao2, cap2, rfl⟩ := readsR_shape hq.rows
  have hlm : l.length = m.length := by have := congrArg List.length he; simpa using this
  have hlen := hs.len
  have hf : ((l.length : Int) != (m.length : Int)) = false := by simp; omega
  have HE : Hid (l.map GpRow.e = m.map GpRow.e) := he
  have HLM : Hid (l.length = m.length) := hlm
  have hl2 : (l.length : Int) ≤ (m.length : Int) := by omega
  clear he hlm
  go_enter Try.func47, Try.ntmps47
  go_wp2_with fail
  go_loopw [5] (fun i wr => ∃ k : Nat, k ≤ l.length ∧ i = .int .i64 k ∧ Below w.heap.size w wr) (fun i _ => l.length - (intOf i).toNat)
  case atStart => exact ⟨0, Nat.zero_le _, rfl, Below.refl _ _⟩
  case round =>
    obtain ⟨k, hk, rfl, hB⟩ := hrel
    by_cases hlt : k < l.length
    · have hlt2 : k < m.length := by rw [← HLM.out]; exact hlt
      obtain ⟨b, off, rfl, hb, _, _, hc⟩ := gp_some hr.rows (by omega)
      obtain ⟨b2, off2, rfl, hb2, _, _, hc2⟩ := gp_some hq.rows (by omega)
      have hk1 : (k : Int) < (l.length : Int) := by omega
      have hk2 : (k : Int) < (m.length : Int) := by omega
      have hsz := hB.size
      have HIN : Hid (∀ w', Below wr.heap.size wr w' → GpIn w' (gpAt l k) ∧ GpIn w' (gpAt m k)) := fun w' h => ⟨gpIn_kept (hr.ins _ (gpAt_mem hlt)) (hB.trans (h.mono hsz)), gpIn_kept (hq.ins _ (gpAt_mem hlt2)) (hB.trans (h.mono hsz))⟩
      have HSM : Hid ((gpAt l k).e.l.length ≤ 1048576) := (hs.each _ (gpAt_mem hlt)).len
      have HEQ : Hid ((gpAt l k).e = (gpAt m k).e) := gp_map_at HE.out hlt
      have HK : Hid (∀ w', Below wr.heap.size wr w' → (w'.cell? ⟨b, off + k * 4, none⟩ = some (.string (gpAt l k).e.name) ∧ w'.cell? ⟨b, off + k * 4 + 1, none⟩ = some (.int .i64 (gpAt l k).e.t) ∧ w'.cell? ⟨b, off + k * 4 + 2, none⟩ = some (.int .i64 (gpAt l k).e.n) ∧ w'.cell? ⟨b, off + k * 4 + 3, none⟩ = some (.slice (gpAt l k).a (gpAt l k).e.l.length (gpAt l k).c)) ∧ (w'.cell? ⟨b2, off2 + k * 4, none⟩ = some (.string (gpAt m k).e.name) ∧ w'.cell? ⟨b2, off2 + k * 4 + 1, none⟩ = some (.int .i64 (gpAt m k).e.t) ∧ w'.cell? ⟨b2, off2 + k * 4 + 2, none⟩ = some (.int .i64 (gpAt m k).e.n) ∧ w'.cell? ⟨b2, off2 + k * 4 + 3, none⟩ = some (.slice (gpAt m k).a (gpAt m k).e.l.length (gpAt m k).c)) ∧ Below wr.heap.size wr w') := fun w' h =>
        ⟨gp_cells hc (hB.trans (h.mono hsz)) hb hlt, gp_cells hc2 (hB.trans (h.mono hsz)) hb2 hlt2, h⟩
      clear hc hc2
      go_wp2_with fail
      go_region_held3 (fun w' => (w'.cell? ⟨b, off + k * 4, none⟩ = some (.string (gpAt l k).e.name) ∧ w'.cell? ⟨b, off + k * 4 + 1, none⟩ = some (.int .i64 (gpAt l k).e.t) ∧ w'.cell? ⟨b, off + k * 4 + 2, none⟩ = some (.int .i64 (gpAt l k).e.n) ∧ w'.cell? ⟨b, off + k * 4 + 3, none⟩ = some (.slice (gpAt l k).a (gpAt l k).e.l.length (gpAt l k).c)) ∧ (w'.cell? ⟨b2, off2 + k * 4, none⟩ = some (.string (gpAt m k).e.name) ∧ w'.cell? ⟨b2, off2 + k * 4 + 1, none⟩ = some (.int .i64 (gpAt m k).e.t) ∧ w'.cell? ⟨b2, off2 + k * 4 + 2, none⟩ = some (.int .i64 (gpAt m k).e.n) ∧ w'.cell? ⟨b2, off2 + k * 4 + 3, none⟩ = some (.slice (gpAt m k).a (gpAt m k).e.l.length (gpAt m k).c)) ∧ Below wr.heap.size wr w') (first | exact HK.out _ (Below.refl _ _).drew | assumption | go_keep) (first
          | (go_at_call 79; refine (eqGroup_same (gpAt l k).e (gpAt m k).e _ _ _ HEQ.out (HIN.out _ (gp_heldB ‹_›)).1 (HIN.out _ (gp_heldB ‹_›)).2 HSM.out).mono ?_; rintro e w3 ⟨rfl, hb3⟩; have hk3 := HK.out _ (gp_held hb3 ‹_›)))
      have hB3 : Below w.heap.size w w3 := hB.trans (hk3.2.2.mono hB.size)
      clear hk3 hb3 hB HK
      go_wp2_with fail
      go_roundw
      case rel => exact ⟨k + 1, hlt, by go_num, hB3⟩
      case measure => simp [intOf]; omega
    · obtain rfl : k = l.length := by omega
      go_wp2_with fail
      go_ret
      exact ⟨rfl, hB⟩
end Go.Proofs.Ytbkllceceaedpaa
