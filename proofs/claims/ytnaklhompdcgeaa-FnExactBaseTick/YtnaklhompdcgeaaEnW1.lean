/- Several texts in one: EnI EnJ. -/
import Derived.Test.YtnaklhompdcgeaaEnH
import Derived.Test.YtnaklhompdcgeaaEnB
/- Rows of entries that are the same; a base: how much is left of a purse behind it, a copy, two that are the same. -/
namespace Go.Proofs.Ytnaklhompdcgeaa
open Go.RowKit
set_option linter.unusedVariables false

theorem map_at {l m : List Row} (h : l.map Row.e = m.map Row.e) {k : Nat} (hk : k < l.length) : (esAt l k).e = (esAt m k).e := by
  have hl : l.length = m.length := by have := congrArg List.length h; simpa using this
  have := congrArg (fun q => q[k]?) h
  simp only [List.getElem?_map] at this
  rw [esAt_some hk, esAt_some (by omega)] at this
  simpa using this
theorem small_map {l m : List Row} (h : l.map Row.e = m.map Row.e) (hs : EsSmall m) : EsSmall l := by
  have hl : l.length = m.length := by have := congrArg List.length h; simpa using this
  refine ⟨by rw [hl]; exact hs.len, fun x hx => ?_⟩
  have : x.e ∈ l.map Row.e := List.mem_map.2 ⟨x, hx, rfl⟩
  rw [h] at this
  obtain ⟨y, hy, he⟩ := List.mem_map.1 this
  rw [← he]; exact hs.each y hy
theorem heldE {wr w2 w3 : World} {a b c d e f g h i j k l m n : Prop} (h3 : Below w2.heap.size w2 w3) (hh : a ∧ b ∧ c ∧ d ∧ e ∧ f ∧ g ∧ h ∧ i ∧ j ∧ k ∧ l ∧ m ∧ n ∧ Below wr.heap.size wr w2) : Below wr.heap.size wr w3 := hh.2.2.2.2.2.2.2.2.2.2.2.2.2.2.trans (h3.mono hh.2.2.2.2.2.2.2.2.2.2.2.2.2.2.size)
theorem heldB {wr w2 : World} {a b c d e f g h i j k l m n : Prop} (hh : a ∧ b ∧ c ∧ d ∧ e ∧ f ∧ g ∧ h ∧ i ∧ j ∧ k ∧ l ∧ m ∧ n ∧ Below wr.heap.size wr w2) : Below wr.heap.size wr w2 := hh.2.2.2.2.2.2.2.2.2.2.2.2.2.2
theorem eqEntry_same (e e2 : Ent) (vl vs vf ul us uf : Value) (w : World) (he : e = e2) (hr : EnReads w vl vs vf e) (hq : EnReads w ul us uf e2) (hs : EnSmall e) :
    Calls Try.prog 34 #[enV e vl vs vf, enV e2 ul us uf] w fun x w' => x = .returned (.bool true) ∧ Below w.heap.size w w' := by
  subst he; exact eqEntry_true e vl vs vf ul us uf w hr hq hs
set_option maxHeartbeats 8000000 in
theorem eqEntryS_true (v u : Value) (l m : List Row) (w : World) (hr : EsReads w v l) (hq : EsReads w u m) (hs : EsSmall l) (he : l.map Row.e = m.map Row.e) :
    Calls Try.prog 21 #[v, u] w fun x w' => x = .returned (.bool true) ∧ Below w.heap.size w w' := by
  obtain ⟨ao, cap, rfl⟩ := readsR_shape hr.rows
  obtain ⟨ao2, cap2, rfl⟩ := readsR_shape hq.rows
  have hlm : l.length = m.length := by have := congrArg List.length he; simpa using this
  have hlen := hs.len
  have hf : ((l.length : Int) != (m.length : Int)) = false := by simp; omega
  have HE : Hid (l.map Row.e = m.map Row.e) := he
  have HLM : Hid (l.length = m.length) := hlm
  have hl2 : (l.length : Int) ≤ (m.length : Int) := by omega
  clear he hlm
  go_enter Try.func21, Try.ntmps21
  go_wp2_with fail
  go_loopw [5] (fun i wr => ∃ k : Nat, k ≤ l.length ∧ i = .int .i64 k ∧ Below w.heap.size w wr) (fun i _ => l.length - (intOf i).toNat)
  case atStart => exact ⟨0, Nat.zero_le _, rfl, Below.refl _ _⟩
  case round =>
    obtain ⟨k, hk, rfl, hB⟩ := hrel
    by_cases hlt : k < l.length
    · have hlt2 : k < m.length := by rw [← HLM.out]; exact hlt
      obtain ⟨b, off, rfl, hb, _, _, hc⟩ := es_some hr.rows (by omega)
      obtain ⟨b2, off2, rfl, hb2, _, _, hc2⟩ := es_some hq.rows (by omega)
      have hk1 : (k : Int) < (l.length : Int) := by omega
      have hk2 : (k : Int) < (m.length : Int) := by omega
      have hsz := hB.size
      have HIN : Hid (∀ w', Below wr.heap.size wr w' → RowIn w' (esAt l k) ∧ RowIn w' (esAt m k)) := fun w' h => ⟨rowIn_kept (hr.ins _ (esAt_mem hlt)) (hB.trans (h.mono hsz)), rowIn_kept (hq.ins _ (esAt_mem hlt2)) (hB.trans (h.mono hsz))⟩
      have HSM : Hid (EnSmall (esAt l k).e) := hs.each _ (esAt_mem hlt)
      have HEQ : Hid ((esAt l k).e = (esAt m k).e) := map_at HE.out hlt
      have HK : Hid (∀ w', Below wr.heap.size wr w' → w'.cell? ⟨b, off + k * 7, none⟩ = some (.string (esAt l k).e.key) ∧ w'.cell? ⟨b, off + k * 7 + 1, none⟩ = some (.int .i64 (esAt l k).e.til) ∧ w'.cell? ⟨b, off + k * 7 + 2, none⟩ = some (.int .i64 (esAt l k).e.kind) ∧ w'.cell? ⟨b, off + k * 7 + 3, none⟩ = some (.string (esAt l k).e.text) ∧ w'.cell? ⟨b, off + k * 7 + 4, none⟩ = some (.slice (esAt l k).al (esAt l k).e.list.length (esAt l k).cl) ∧ w'.cell? ⟨b, off + k * 7 + 5, none⟩ = some (.slice (esAt l k).as_ (esAt l k).e.scores.length (esAt l k).cs) ∧ w'.cell? ⟨b, off + k * 7 + 6, none⟩ = some (.slice (esAt l k).af (esAt l k).e.fields.length (esAt l k).cf) ∧ w'.cell? ⟨b2, off2 + k * 7, none⟩ = some (.string (esAt m k).e.key) ∧ w'.cell? ⟨b2, off2 + k * 7 + 1, none⟩ = some (.int .i64 (esAt m k).e.til) ∧ w'.cell? ⟨b2, off2 + k * 7 + 2, none⟩ = some (.int .i64 (esAt m k).e.kind) ∧ w'.cell? ⟨b2, off2 + k * 7 + 3, none⟩ = some (.string (esAt m k).e.text) ∧ w'.cell? ⟨b2, off2 + k * 7 + 4, none⟩ = some (.slice (esAt m k).al (esAt m k).e.list.length (esAt m k).cl) ∧ w'.cell? ⟨b2, off2 + k * 7 + 5, none⟩ = some (.slice (esAt m k).as_ (esAt m k).e.scores.length (esAt m k).cs) ∧ w'.cell? ⟨b2, off2 + k * 7 + 6, none⟩ = some (.slice (esAt m k).af (esAt m k).e.fields.length (esAt m k).cf) ∧ Below wr.heap.size wr w') := fun w' h => by
        obtain ⟨x0, x1, x2, x3, x4, x5, x6⟩ := es_cells hc (hB.trans (h.mono hsz)) hb hlt
        obtain ⟨y0, y1, y2, y3, y4, y5, y6⟩ := es_cells hc2 (hB.trans (h.mono hsz)) hb2 hlt2
        exact ⟨x0, x1, x2, x3, x4, x5, x6, y0, y1, y2, y3, y4, y5, y6, h⟩
      clear hc hc2
      go_wp2_with fail
      go_region_held3 (fun w' => w'.cell? ⟨b, off + k * 7, none⟩ = some (.string (esAt l k).e.key) ∧ w'.cell? ⟨b, off + k * 7 + 1, none⟩ = some (.int .i64 (esAt l k).e.til) ∧ w'.cell? ⟨b, off + k * 7 + 2, none⟩ = some (.int .i64 (esAt l k).e.kind) ∧ w'.cell? ⟨b, off + k * 7 + 3, none⟩ = some (.string (esAt l k).e.text) ∧ w'.cell? ⟨b, off + k * 7 + 4, none⟩ = some (.slice (esAt l k).al (esAt l k).e.list.length (esAt l k).cl) ∧ w'.cell? ⟨b, off + k * 7 + 5, none⟩ = some (.slice (esAt l k).as_ (esAt l k).e.scores.length (esAt l k).cs) ∧ w'.cell? ⟨b, off + k * 7 + 6, none⟩ = some (.slice (esAt l k).af (esAt l k).e.fields.length (esAt l k).cf) ∧ w'.cell? ⟨b2, off2 + k * 7, none⟩ = some (.string (esAt m k).e.key) ∧ w'.cell? ⟨b2, off2 + k * 7 + 1, none⟩ = some (.int .i64 (esAt m k).e.til) ∧ w'.cell? ⟨b2, off2 + k * 7 + 2, none⟩ = some (.int .i64 (esAt m k).e.kind) ∧ w'.cell? ⟨b2, off2 + k * 7 + 3, none⟩ = some (.string (esAt m k).e.text) ∧ w'.cell? ⟨b2, off2 + k * 7 + 4, none⟩ = some (.slice (esAt m k).al (esAt m k).e.list.length (esAt m k).cl) ∧ w'.cell? ⟨b2, off2 + k * 7 + 5, none⟩ = some (.slice (esAt m k).as_ (esAt m k).e.scores.length (esAt m k).cs) ∧ w'.cell? ⟨b2, off2 + k * 7 + 6, none⟩ = some (.slice (esAt m k).af (esAt m k).e.fields.length (esAt m k).cf) ∧ Below wr.heap.size wr w') (first | exact HK.out _ (Below.refl _ _).drew | assumption | go_keep) (first
          | (go_at_call 34; refine (eqEntry_same (esAt l k).e (esAt m k).e _ _ _ _ _ _ _ HEQ.out (HIN.out _ (heldB ‹_›)).1 (HIN.out _ (heldB ‹_›)).2 HSM.out).mono ?_; rintro e w3 ⟨rfl, hb3⟩; have hk3 := HK.out _ (heldE hb3 ‹_›)))
      have hB3 : Below w.heap.size w w3 := hB.trans (hk3.2.2.2.2.2.2.2.2.2.2.2.2.2.2.mono hB.size)
      clear hk3 hb3 hB HK
      go_wp2_with fail
      go_roundw
      case rel => exact ⟨k + 1, hlt, by go_num, hB3⟩
      case measure => simp [intOf]; omega
    · obtain rfl : k = l.length := by omega
      go_wp2_with fail
      go_ret
      exact ⟨rfl, hB⟩
end Go.Proofs.Ytnaklhompdcgeaa
/- A base: how much is left of a purse behind it, a copy in new memory, two that are the same. -/
namespace Go.Proofs.Ytnaklhompdcgeaa
open Go.RowKit
set_option linter.unusedVariables false

abbrev bsV (n : Int) (v : Value) : Value := .agg #[.int .i64 n, v]
set_option maxHeartbeats 4000000 in
theorem szBase_any (n : Int) (v : Value) (l : List Row) (left : Int) (w : World) (hr : EsReads w v l) (hf : ∀ x ∈ l, EnFit x.e) (hlen : l.length ≤ maxLen) (hl : 0 ≤ left) (hl2 : left ≤ 1048576) :
    Calls Try.prog 4 #[bsV n v, .int .i64 left] w fun x w' => (∃ m : Int, x = .returned (.int .i64 m) ∧ (m < 0 ∨ 0 ≤ m ∧ m ≤ left ∧ EsSmall l)) ∧ Below w.heap.size w w' := by
  obtain ⟨ao, cap, rfl⟩ := readsR_shape hr.rows
  have hA : ∀ A, Below w.heap.size w (w.alloc A) := fun A => (Below.refl _ w).alloc (Nat.le_refl _) A
  go_enter Try.func4, Try.ntmps4
  go_wp2_with fail
  refine (szEntryS_any _ l left _ (esReads_kept hr (hA _)) hf hlen hl hl2).mono ?_
  rintro x w1 ⟨⟨m, rfl, hm⟩, hb1⟩
  have hB1 := (hA _).trans (hb1.mono (by simp))
  clear hb1
  rcases hm with hm | ⟨hm0, hm1, hms⟩
  · go_wp2_with fail
    go_ret
    exact ⟨⟨_, rfl, .inl (by omega)⟩, hB1⟩
  · have HM : Hid _ := hms
    clear hms
    go_wp2_with fail
    go_ret
    exact ⟨⟨_, rfl, .inr ⟨hm0, hm1, HM.out⟩⟩, hB1⟩
theorem esFor_cell {w : World} {lo hi : Nat} {v : Value} {l : List Row} (h : EsFor w lo hi v l) (a : Addr) (u : Value) (ha : a.block < lo) : EsFor (w.setCell a u) lo hi v l := by
  obtain ⟨m, h1, h2, h3, h4⟩ := h
  exact ⟨m, h1, h2, ownR_cell h3 a u ha, ensOwn_cell h4 a u (by omega)⟩
theorem esFor_base {w : World} {lo lo' hi hi' : Nat} {v : Value} {l : List Row} (h : EsFor w lo hi v l) (hl : lo' ≤ lo) (hh : hi ≤ hi') : EsFor w lo' hi' v l := by
  obtain ⟨m, h1, h2, h3, h4⟩ := h
  have up : ∀ {l : List Row} {a : Nat}, EnsOwn w a hi l → EnsOwn w a hi' l := by
    intro l
    induction l with
    | nil => intro a h; exact Nat.le_trans (show a ≤ hi from h) hh
    | cons x l ih => intro a ⟨m, h1, h2, h3⟩; exact ⟨m, h1, h2, ih h3⟩
  exact ⟨m, by omega, by omega, ⟨ownsR_base h3.1 hl, h3.2⟩, up h4⟩
theorem box2_set {w : World} {B : Nat} {x0 x1 : Value} {t : TypeId} (h : w.heap[B]? = some (.cells #[x0, x1] t (0, 0))) (u0 u1 : Value) :
    ((w.setCell ⟨B, 0, none⟩ u0).setCell ⟨B, 1, none⟩ u1).heap[B]? = some (.cells #[u0, u1] t (0, 0)) := by
  rw [heap_setCell_same _ B 1 _ _ _ (heap_setCell_same _ B 0 _ _ _ h)]; rfl
set_option maxHeartbeats 4000000 in
theorem toBase_any (n : Int) (v : Value) (l : List Row) (w : World) (hr : EsReads w v l) (hs : EsSmall l) :
    Calls Try.prog 6 #[bsV n v] w fun x w' => (∃ v' ys, x = .returned (bsV n v') ∧ ys.map Row.e = l.map Row.e ∧ EsFor w' w.heap.size w'.heap.size v' ys) ∧ Below w.heap.size w w' := by
  obtain ⟨ao, cap, rfl⟩ := readsR_shape hr.rows
  have hA : ∀ A B C, Below w.heap.size w (((w.alloc A).alloc B).alloc C) := fun A B C => (((Below.refl _ w).alloc (Nat.le_refl _) A).alloc (by simp) B).alloc (by simp; omega) C
  go_enter Try.func6, Try.ntmps6
  go_wp2_with fail
  obtain ⟨w0, hW⟩ : ∃ W, ((w.alloc (.cells #[.int .i64 n, .slice ao l.length cap] 24)).alloc (.cells #[.int .i64 0, .slice none 0 0] 28)).alloc (.cells #[.int .i64 n, .slice none 0 0] 28) = W := ⟨_, rfl⟩
  have hB0 : Below w.heap.size w w0 := by rw [← hW]; exact hA _ _ _
  have hz0 : w0.heap.size = w.heap.size + 3 := by rw [← hW]; simp
  obtain ⟨q0, q1, q2⟩ : w0.heap[w.heap.size]? = some _ ∧ w0.heap[w.heap.size + 1]? = some _ ∧ w0.heap[w.heap.size + 2]? = some _ := by rw [← hW]; exact three_rows _ _ _ _
  rw [hW]
  have Q1 : Hid _ := q1
  have Q2 : Hid _ := q2
  clear hW hA q0 q1 q2
  refine (toEntryS_any _ l _ (esReads_kept hr hB0) hs).mono ?_
  rintro x w1 ⟨⟨u, ys, rfl, hmap, ho⟩, hb1⟩
  obtain ⟨bo, cb, rfl⟩ := readsR_shape (esFor_reads ho).rows
  have hB1 := hB0.trans (hb1.mono hB0.size)
  rw [hz0] at ho
  have hz1 := hb1.size
  rw [hz0] at hz1
  have q1 := (hb1.block (w.heap.size + 1) (by omega)).trans Q1.out
  have q2 := (hb1.block (w.heap.size + 2) (by omega)).trans Q2.out
  have d0 : w1.cell? ⟨w.heap.size + 2, 0, none⟩ = some (.int .i64 n) := by rw [cell_of_row _ _ _ _ _ _ q2]; rfl
  have d1 : w1.cell? ⟨w.heap.size + 2, 1, none⟩ = some (.slice none 0 0) := by rw [cell_of_row _ _ _ _ _ _ q2]; rfl
  have e0 : w1.cell? ⟨w.heap.size + 1, 0, none⟩ = some (.int .i64 0) := by rw [cell_of_row _ _ _ _ _ _ q1]; rfl
  have e1 : w1.cell? ⟨w.heap.size + 1, 1, none⟩ = some (.slice none 0 0) := by rw [cell_of_row _ _ _ _ _ _ q1]; rfl
  have f1 : ∀ o, w1.frozen? ⟨w.heap.size + 1, o, none⟩ = false := fun o => by simp [World.frozen?, q1]
  have f2 : ∀ o, w1.frozen? ⟨w.heap.size + 2, o, none⟩ = false := fun o => by simp [World.frozen?, q2]
  have HP : Hid _ := q1
  have HMAP : Hid (ys.map Row.e = l.map Row.e) := hmap
  have HO : Hid _ := ho
  clear q1 q2 Q1 Q2 hb1 hB0 hmap ho
  go_wp2_with fail
  refine bodyPost_ret (results_cell_row rfl _ _ (w.heap.size + 1) 28 _ (0, 0) _ rfl (box2_set ((Below.heap_setCell w1 _ _ _ (by show w.heap.size + 1 ≠ w.heap.size + 1 + 1; omega)).trans HP.out) _ _) Try.underlying28 rfl (by kernel_rfl)) rfl ?_
  refine ⟨⟨_, ys, rfl, HMAP.out, esFor_base (esFor_cell (esFor_cell (esFor_cell HO.out _ _ (by show w.heap.size + 1 + 1 < _; omega)) _ _ (by show w.heap.size + 1 < _; omega)) _ _ (by show w.heap.size + 1 < _; omega)) (by omega) (by simp only [setCell_size]; exact Nat.le_refl _)⟩, ?_⟩
  exact ((hB1.setCell (by show w.heap.size ≤ w.heap.size + 1 + 1; omega) _).setCell (by show w.heap.size ≤ w.heap.size + 1; omega) _).setCell (by show w.heap.size ≤ w.heap.size + 1; omega) _
set_option maxHeartbeats 4000000 in
theorem eqBase_true (n : Int) (v u : Value) (l m : List Row) (w : World) (hr : EsReads w v l) (hq : EsReads w u m) (hs : EsSmall l) (he : l.map Row.e = m.map Row.e) :
    Calls Try.prog 8 #[bsV n v, bsV n u] w fun x w' => x = .returned (.bool true) ∧ Below w.heap.size w w' := by
  obtain ⟨ao, cap, rfl⟩ := readsR_shape hr.rows
  obtain ⟨ao2, cap2, rfl⟩ := readsR_shape hq.rows
  have hA : ∀ A B, Below w.heap.size w ((w.alloc A).alloc B) := fun A B => ((Below.refl _ w).alloc (Nat.le_refl _) A).alloc (by simp) B
  have hi : (n != n) = false := by simp
  have HE : Hid (l.map Row.e = m.map Row.e) := he
  clear he
  go_enter Try.func8, Try.ntmps8
  go_wp2_with fail
  refine (eqEntryS_true _ _ l m _ (esReads_kept hr (hA _ _)) (esReads_kept hq (hA _ _)) hs HE.out).mono ?_
  rintro x w1 ⟨rfl, hb1⟩
  have hB1 := (hA _ _).trans (hb1.mono (by simp; omega))
  clear hb1
  go_wp2_with fail
  go_ret
  exact ⟨rfl, hB1⟩
end Go.Proofs.Ytnaklhompdcgeaa
