/- Rows of entries that are the same; a base: how much is left of a purse behind it, a copy, two that are the same. -/
import Derived.Test.YtaiboncomibikaaGreatDoorEnH
import Derived.Test.YtaiboncomibikaaGreatDoorEnB
namespace Go.Proofs.YtaiboncomibikaaGreatDoor
open Go.RowKit
set_option linter.unusedVariables false

theorem map_at {l m : List Row} (h : l.map Row.e = m.map Row.e) {k : Nat} (hk : k < l.length) : (esAt l k).e = (esAt m k).e := by
  have hl : l.length = m.length := by have := congrArg List.length h; simpa using this
  have := congrArg (fun q => q[k]?) h
  simp only [List.getElem?_map] at this
  rw [esAt_some hk, esAt_some (by omega)] at this
  simpa using this
theorem small_map {l m : List Row} (h : l.map Row.e = m.map Row.e) (hs : EsSmall m) : EsSmall l := by
  have hl : l.length = m.length := by have := congrArg List.length h; simpa using this
  refine ⟨by rw [hl]; exact hs.len, fun x hx => ?_⟩
  have : x.e ∈ l.map Row.e := List.mem_map.2 ⟨x, hx, rfl⟩
  rw [h] at this
  obtain ⟨y, hy, he⟩ := List.mem_map.1 this
  rw [← he]; exact hs.each y hy
theorem heldE {wr w2 w3 : World} {a b c d e f g h i j k l m n : Prop} (h3 : Below w2.heap.size w2 w3) (hh : a ∧ b ∧ c ∧ d ∧ e ∧ f ∧ g ∧ h ∧ i ∧ j ∧ k ∧ l ∧ m ∧ n ∧ Below wr.heap.size wr w2) : Below wr.heap.size wr w3 := hh.2.2.2.2.2.2.2.2.2.2.2.2.2.2.trans (h3.mono hh.2.2.2.2.2.2.2.2.2.2.2.2.2.2.size)
theorem heldB {wr w2 : World} {a b c d e f g h i j k l m n : Prop} (hh : a ∧ b ∧ c ∧ d ∧ e ∧ f ∧ g ∧ h ∧ i ∧ j ∧ k ∧ l ∧ m ∧ n ∧ Below wr.heap.size wr w2) : Below wr.heap.size wr w2 := hh.2.2.2.2.2.2.2.2.2.2.2.2.2.2
theorem eqEntry_same (e e2 : Ent) (vl vs vf ul us uf : Value) (w : World) (he : e = e2) (hr : EnReads w vl vs vf e) (hq : EnReads w ul us uf e2) (hs : EnSmall e) :
    Calls Tryz.prog 30 #[enV e vl vs vf, enV e2 ul us uf] w fun x w' => x = .returned (.bool true) ∧ Below w.heap.size w w' := by
  subst he; exact eqEntry_true e vl vs vf ul us uf w hr hq hs
set_option maxHeartbeats 8000000 in
theorem eqEntryS_true (v u : Value) (l m : List Row) (w : World) (hr : EsReads w v l) (hq : EsReads w u m) (hs : EsSmall l) (he : l.map Row.e = m.map Row.e) :
    Calls Tryz.prog 19 #[v, u] w fun x w' => x = .returned (.bool true) ∧ Below w.heap.size w w' := by
  obtain ⟨ao, cap, rfl⟩ := readsR_shape hr.rows
  obtain ⟨ao2, cap2, rfl⟩ := readsR_shape hq.rows
  have hlm : l.length = m.length := by have := congrArg List.length he; simpa using this
  have hlen := hs.len
  have hf : ((l.length : Int) != (m.length : Int)) = false := by simp; omega
  have HE : Hid (l.map Row.e = m.map Row.e) := he
  have HLM : Hid (l.length = m.length) := hlm
  have hl2 : (l.length : Int) ≤ (m.length : Int) := by omega
  clear he hlm
  go_enter Tryz.func19, Tryz.ntmps19
  go_wp2_with fail
  go_loopw [5] (fun i wr => ∃ k : Nat, k ≤ l.length ∧ i = .int .i64 k ∧ Below w.heap.size w wr) (fun i _ => l.length - (intOf i).toNat)
  case atStart => exact ⟨0, Nat.zero_le _, rfl, Below.refl _ _⟩
  case round =>
    obtain ⟨k, hk, rfl, hB⟩ := hrel
    by_cases hlt : k < l.length
    · have hlt2 : k < m.length := by rw [← HLM.out]; exact hlt
      obtain ⟨b, off, rfl, hb, _, _, hc⟩ := es_some hr.rows (by omega)
      obtain ⟨b2, off2, rfl, hb2, _, _, hc2⟩ := es_some hq.rows (by omega)
      have hk1 : (k : Int) < (l.length : Int) := by omega
      have hk2 : (k : Int) < (m.length : Int) := by omega
      have hsz := hB.size
      have HIN : Hid (∀ w', Below wr.heap.size wr w' → RowIn w' (esAt l k) ∧ RowIn w' (esAt m k)) := fun w' h => ⟨rowIn_kept (hr.ins _ (esAt_mem hlt)) (hB.trans (h.mono hsz)), rowIn_kept (hq.ins _ (esAt_mem hlt2)) (hB.trans (h.mono hsz))⟩
      have HSM : Hid (EnSmall (esAt l k).e) := hs.each _ (esAt_mem hlt)
      have HEQ : Hid ((esAt l k).e = (esAt m k).e) := map_at HE.out hlt
      have HK : Hid (∀ w', Below wr.heap.size wr w' → w'.cell? ⟨b, off + k * 7, none⟩ = some (.string (esAt l k).e.key) ∧ w'.cell? ⟨b, off + k * 7 + 1, none⟩ = some (.int .i64 (esAt l k).e.til) ∧ w'.cell? ⟨b, off + k * 7 + 2, none⟩ = some (.int .i64 (esAt l k).e.kind) ∧ w'.cell? ⟨b, off + k * 7 + 3, none⟩ = some (.string (esAt l k).e.text) ∧ w'.cell? ⟨b, off + k * 7 + 4, none⟩ = some (.slice (esAt l k).al (esAt l k).e.list.length (esAt l k).cl) ∧ w'.cell? ⟨b, off + k * 7 + 5, none⟩ = some (.slice (esAt l k).as_ (esAt l k).e.scores.length (esAt l k).cs) ∧ w'.cell? ⟨b, off + k * 7 + 6, none⟩ = some (.slice (esAt l k).af (esAt l k).e.fields.length (esAt l k).cf) ∧ w'.cell? ⟨b2, off2 + k * 7, none⟩ = some (.string (esAt m k).e.key) ∧ w'.cell? ⟨b2, off2 + k * 7 + 1, none⟩ = some (.int .i64 (esAt m k).e.til) ∧ w'.cell? ⟨b2, off2 + k * 7 + 2, none⟩ = some (.int .i64 (esAt m k).e.kind) ∧ w'.cell? ⟨b2, off2 + k * 7 + 3, none⟩ = some (.string (esAt m k).e.text) ∧ w'.cell? ⟨b2, off2 + k * 7 + 4, none⟩ = some (.slice (esAt m k).al (esAt m k).e.list.length (esAt m k).cl) ∧ w'.cell? ⟨b2, off2 + k * 7 + 5, none⟩ = some (.slice (esAt m k).as_ (esAt m k).e.scores.length (esAt m k).cs) ∧ w'.cell? ⟨b2, off2 + k * 7 + 6, none⟩ = some (.slice (esAt m k).af (esAt m k).e.fields.length (esAt m k).cf) ∧ Below wr.heap.size wr w') := fun w' h => by
        obtain ⟨x0, x1, x2, x3, x4, x5, x6⟩ := es_cells hc (hB.trans (h.mono hsz)) hb hlt
        obtain ⟨y0, y1, y2, y3, y4, y5, y6⟩ := es_cells hc2 (hB.trans (h.mono hsz)) hb2 hlt2
        exact ⟨x0, x1, x2, x3, x4, x5, x6, y0, y1, y2, y3, y4, y5, y6, h⟩
      clear hc hc2
      go_wp2_with fail
      go_region_held3 (fun w' => w'.cell? ⟨b, off + k * 7, none⟩ = some (.string (esAt l k).e.key) ∧ w'.cell? ⟨b, off + k * 7 + 1, none⟩ = some (.int .i64 (esAt l k).e.til) ∧ w'.cell? ⟨b, off + k * 7 + 2, none⟩ = some (.int .i64 (esAt l k).e.kind) ∧ w'.cell? ⟨b, off + k * 7 + 3, none⟩ = some (.string (esAt l k).e.text) ∧ w'.cell? ⟨b, off + k * 7 + 4, none⟩ = some (.slice (esAt l k).al (esAt l k).e.list.length (esAt l k).cl) ∧ w'.cell? ⟨b, off + k * 7 + 5, none⟩ = some (.slice (esAt l k).as_ (esAt l k).e.scores.length (esAt l k).cs) ∧ w'.cell? ⟨b, off + k * 7 + 6, none⟩ = some (.slice (esAt l k).af (esAt l k).e.fields.length (esAt l k).cf) ∧ w'.cell? ⟨b2, off2 + k * 7, none⟩ = some (.string (esAt m k).e.key) ∧ w'.cell? ⟨b2, off2 + k * 7 + 1, none⟩ = some (.int .i64 (esAt m k).e.til) ∧ w'.cell? ⟨b2, off2 + k * 7 + 2, none⟩ = some (.int .i64 (esAt m k).e.kind) ∧ w'.cell? ⟨b2, off2 + k * 7 + 3, none⟩ = some (.string (esAt m k).e.text) ∧ w'.cell? ⟨b2, off2 + k * 7 + 4, none⟩ = some (.slice (esAt m k).al (esAt m k).e.list.length (esAt m k).cl) ∧ w'.cell? ⟨b2, off2 + k * 7 + 5, none⟩ = some (.slice (esAt m k).as_ (esAt m k).e.scores.length (esAt m k).cs) ∧ w'.cell? ⟨b2, off2 + k * 7 + 6, none⟩ = some (.slice (esAt m k).af (esAt m k).e.fields.length (esAt m k).cf) ∧ Below wr.heap.size wr w') (first | exact HK.out _ (Below.refl _ _).drew | assumption | go_keep) (first
          | (go_at_call 30; refine (eqEntry_same (esAt l k).e (esAt m k).e _ _ _ _ _ _ _ HEQ.out (HIN.out _ (heldB ‹_›)).1 (HIN.out _ (heldB ‹_›)).2 HSM.out).mono ?_; rintro e w3 ⟨rfl, hb3⟩; have hk3 := HK.out _ (heldE hb3 ‹_›)))
      have hB3 : Below w.heap.size w w3 := hB.trans (hk3.2.2.2.2.2.2.2.2.2.2.2.2.2.2.mono hB.size)
      clear hk3 hb3 hB HK
      go_wp2_with fail
      go_roundw
      case rel => exact ⟨k + 1, hlt, by go_num, hB3⟩
      case measure => simp [intOf]; omega
    · obtain rfl : k = l.length := by omega
      go_wp2_with fail
      go_ret
      exact ⟨rfl, hB⟩
end Go.Proofs.YtaiboncomibikaaGreatDoor
