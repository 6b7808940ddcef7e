/- The model's BaseGet. -/
import Derived.Test.YtnefnbojomlaeaaEnU
namespace Go.Proofs.Ytnefnbojomlaeaa
open Go.RowKit
set_option linter.unusedVariables false

set_option maxHeartbeats 8000000 in
set_option maxRecDepth 100000 in
theorem l4Get_any (n : Int) (v : Value) (l : List Row) (s : ByteArray) (w : World) (hr : EsReads w v l) (hs : EsSmall l) (hok : bsOkB n (l.map Row.e) = true) (hh : esHas l s = true) :
    Calls Try.prog 16 #[bsV n v, .string s] w fun x w' => (∃ ul us uf, x = .returned (enV (esFound l s).e ul us uf) ∧ EnOwn w' w.heap.size w'.heap.size ul us uf (esFound l s).e) ∧ Below w.heap.size w w' := by
  obtain ⟨ao, cap, rfl⟩ := readsR_shape hr.rows
  have hlen := hs.len
  obtain ⟨m, hm⟩ : ∃ m, esIdx l s = m := ⟨_, rfl⟩
  have hi : m < l.length := by rw [← hm]; unfold esHas at hh; exact of_decide_eq_true hh
  have hF : esFound l s = esAt l m := by unfold esFound; rw [hm, if_pos hi]
  rw [hF]
  clear hF
  go_enter Try.func16, Try.ntmps16
  go_wp2_with fail
  obtain ⟨w0, hW⟩ : ∃ W, (w.alloc (.cells #[.int .i64 n, .slice ao l.length cap] 35)).alloc (.cells #[.string ⟨#[]⟩, .int .i64 0, .int .i64 0, .string ⟨#[]⟩, .slice none 0 0, .slice none 0 0, .slice none 0 0] 30) = W := ⟨_, rfl⟩
  have hB0 : Below w.heap.size w w0 := by rw [← hW]; exact ((Below.refl _ w).alloc (Nat.le_refl _) _).alloc (by simp) _
  have HZ0 : Hid (w0.heap.size = w.heap.size + 2) := by show _ = _; rw [← hW]; simp
  obtain ⟨q0, q1⟩ : w0.heap[w.heap.size]? = some _ ∧ w0.heap[w.heap.size + 1]? = some _ := by rw [← hW]; exact two_rows _ _ _
  rw [hW]
  have Q0 : Hid _ := q0
  have Q1 : Hid _ := q1
  clear hW q0 q1
  refine (l4At_any n _ l s _ (esReads_kept hr hB0) hlen).mono ?_
  rintro x w1 ⟨⟨k, rfl, hk, hlt, hge⟩, hb1⟩
  obtain ⟨he, hx⟩ := at_idx hok hk hlt hge
  have hB1 := hB0.trans (hb1.mono hB0.size)
  have hz1 := hb1.size
  rw [HZ0.out] at hz1
  have P0 := (hb1.block w.heap.size (by rw [HZ0.out]; omega)).trans Q0.out
  have P1 : Hid _ := (hb1.block (w.heap.size + 1) (by rw [HZ0.out]; omega)).trans Q1.out
  have hBs : ∀ W, Below w.heap.size w W → ∀ o u, Below w.heap.size w (W.setCell ⟨w.heap.size + 1, o, none⟩ u) := fun W h o u => h.setCell (p := ⟨w.heap.size + 1, o, none⟩) (by show w.heap.size ≤ w.heap.size + 1; omega) u
  obtain rfl : k = m := by rw [← hm]; exact hx hh
  rw [he, hh]
  have hr1 := esReads_kept hr hB1
  obtain ⟨b, off, rfl, hb, hnc, hcm, hc⟩ := es_some hr1.rows (by omega)
  obtain ⟨c0, c1, c2, c3, c4, c5, c6⟩ := es_cells hc (Below.refl _ _) hb hi
  have x1 : w1.cell? ⟨w.heap.size, 1, none⟩ = some (.slice (some ⟨b, off, none⟩) l.length cap) := by rw [cell_of_row _ _ _ _ _ _ P0]; rfl
  have hk1 : (k : Int) < (l.length : Int) := by omega
  have hin : RowIn w1 (esAt l k) := hr1.ins _ (esAt_mem hi)
  have hsm : EnSmall (esAt l k).e := hs.each _ (esAt_mem hi)
  clear hb1 Q0 Q1 hB0 hc hnc hcm hr1 hr hlt hge he hx hm hh hok P0
  go_wp2_with fail
  clear x1 c0 c1 c2 c3 c4 c5 c6
  refine (l4Entry_any (esAt l k).e _ _ _ _ hin hsm).mono ?_
  rintro x w4 ⟨⟨ul, us, uf, rfl, ho⟩, hb4⟩
  obtain ⟨bl, dl, bs, ds, bf, df, rfl, rfl, rfl⟩ := enReads_shape (enOwn_reads ho)
  have hB4 := hB1.trans (hb4.mono hB1.size)
  have q1 := (hb4.block (w.heap.size + 1) (by omega)).trans P1.out
  obtain ⟨d0, d1, d2, d3, d4, d5, d6⟩ := box7_row q1
  have f1 : ∀ o, w4.frozen? ⟨w.heap.size + 1, o, none⟩ = false := fun o => by simp [World.frozen?, q1]
  have P4 : Hid _ := q1
  have HO : Hid _ := ho
  clear hb4 hB1 P1 q1 hin hsm ho HZ0
  go_wp2_with fail
  have hBF := hBs _ (hBs _ (hBs _ (hBs _ (hBs _ (hBs _ (hBs _ hB4 0 (.string (esAt l k).e.key)) 1 (.int .i64 (esAt l k).e.til)) 2 (.int .i64 (esAt l k).e.kind)) 3 (.string (esAt l k).e.text)) 4 (.slice bl (esAt l k).e.list.length dl)) 5 (.slice bs (esAt l k).e.scores.length ds)) 6 (.slice bf (esAt l k).e.fields.length df)
  have oc := fun {W : World} (h : EnOwn W w1.heap.size w4.heap.size (.slice bl (esAt l k).e.list.length dl) (.slice bs (esAt l k).e.scores.length ds) (.slice bf (esAt l k).e.fields.length df) (esAt l k).e) (o : Nat) (u : Value) => enOwn_cell h ⟨w.heap.size + 1, o, none⟩ u (by show w.heap.size + 1 < _; omega)
  refine bodyPost_ret (results_cell_row rfl _ _ (w.heap.size + 1) 30 _ (0, 0) _ rfl (box7_set P4.out _ _ _ _ _ _ _) Try.underlying30 rfl (by kernel_rfl)) rfl ⟨⟨_, _, _, rfl, ?_⟩, hBF⟩
  exact enOwn_base (oc (oc (oc (oc (oc (oc (oc HO.out _ _) _ _) _ _) _ _) _ _) _ _) _ _) (by omega) (by simp only [setCell_size]; exact Nat.le_refl _)

theorem specGet_res {w : World} {tmps : Array Value} {g : Nat} {x0 x1 x2 x3 x4 x5 x6 : Value} {bb : Bool} (hp : tmps[4]?.getD undef = .pointer (some ⟨g, 0, none⟩)) (hb : tmps[5]?.getD undef = .bool bb)
    (hg : w.rangeAt g 0 [x0, x1, x2, x3, x4, x5, x6]) : (results Try.f5 tmps).run Try.prog w = .ok (.tuple #[.agg #[x0, x1, x2, x3, x4, x5, x6], .bool bb]) w := by
  have hl := run_loadVar_mid (P := Try.prog) w g 0 30 [x0, x1, x2, x3, x4, x5, x6] _ hg Try.underlying30 rfl (by kernel_rfl)
  simp [results, Try.results5, asAddr, hp, hb, hl]
set_option maxHeartbeats 8000000 in
set_option maxRecDepth 100000 in
theorem specBaseGet_any (n : Int) (v : Value) (l : List Row) (s : ByteArray) (w : World) (hr : EsReads w v l) (hs : EsSmall l) (hn : -9223372036854775808 ≤ n ∧ n ≤ 9223372036854775807) :
    Calls Try.prog 5 #[bsV n v, .string s] w fun x w' => (∃ ul us uf, x = .returned (.tuple #[enV (getE n l s) ul us uf, .bool (getB n l s)]) ∧ EnOwn w' w.heap.size w'.heap.size ul us uf (getE n l s)) ∧ Below w.heap.size w w' := by
  obtain ⟨ao, cap, rfl⟩ := readsR_shape hr.rows
  have hlen := hs.len
  go_enter Try.func5, Try.ntmps5
  go_wp2_with fail
  obtain ⟨w0, hW⟩ : ∃ W, (w.alloc (.cells #[.int .i64 n, .slice ao l.length cap] 35)).alloc (.cells #[.string ⟨#[]⟩, .int .i64 0, .int .i64 0, .string ⟨#[]⟩, .slice none 0 0, .slice none 0 0, .slice none 0 0] 30) = W := ⟨_, rfl⟩
  have hB0 : Below w.heap.size w w0 := by rw [← hW]; exact ((Below.refl _ w).alloc (Nat.le_refl _) _).alloc (by simp) _
  have HZ0 : Hid (w0.heap.size = w.heap.size + 2) := by show _ = _; rw [← hW]; simp
  obtain ⟨q0, q1⟩ : w0.heap[w.heap.size]? = some _ ∧ w0.heap[w.heap.size + 1]? = some _ := by rw [← hW]; exact two_rows _ _ _
  rw [hW]
  have Q0 : Hid _ := q0
  have Q1 : Hid _ := q1
  clear hW q0 q1
  refine (specBaseOk_any n _ l _ (esReads_kept hr hB0) hs hn).mono ?_
  rintro x w1 ⟨rfl, hb1⟩
  have hB1 := hB0.trans (hb1.mono hB0.size)
  have hz1 := hb1.size
  rw [HZ0.out] at hz1
  have q0 := (hb1.block w.heap.size (by rw [HZ0.out]; omega)).trans Q0.out
  have q1 := (hb1.block (w.heap.size + 1) (by rw [HZ0.out]; omega)).trans Q1.out
  have P0 : Hid _ := q0
  have P1 : Hid _ := q1
  have hBs : ∀ W, Below w.heap.size w W → ∀ o u, Below w.heap.size w (W.setCell ⟨w.heap.size + 1, o, none⟩ u) := fun W h o u => h.setCell (p := ⟨w.heap.size + 1, o, none⟩) (by show w.heap.size ≤ w.heap.size + 1; omega) u
  have b0 : w1.cell? ⟨w.heap.size, 0, none⟩ = some (.int .i64 n) := by rw [cell_of_row _ _ _ _ _ _ q0]; rfl
  have b1 : w1.cell? ⟨w.heap.size, 1, none⟩ = some (.slice ao l.length cap) := by rw [cell_of_row _ _ _ _ _ _ q0]; rfl
  obtain ⟨d0, d1, d2, d3, d4, d5, d6⟩ := box7_row q1
  have f1 : ∀ o, w1.frozen? ⟨w.heap.size + 1, o, none⟩ = false := fun o => by simp [World.frozen?, q1]
  clear hb1 Q0 Q1 hB0 q0 q1
  cases hok : bsOkB n (l.map Row.e) with
  | false =>
    have HE : Hid (getE n l s = enZ) := by show _ = _; unfold getE; rw [hok]; rfl
    have HG : Hid (getB n l s = false) := by show _ = _; unfold getB; rw [hok]; rfl
    clear hok hr
    go_wp2_with fail
    have hBF := hBs _ (hBs _ (hBs _ (hBs _ (hBs _ (hBs _ (hBs _ hB1 0 (.string ⟨#[]⟩)) 1 (.int .i64 0)) 2 (.int .i64 0)) 3 (.string ⟨#[]⟩)) 4 (.slice none 0 0)) 5 (.slice none 0 0)) 6 (.slice none 0 0)
    refine bodyPost_ret (specGet_res rfl rfl (range7 (box7_set P1.out _ _ _ _ _ _ _))) rfl ⟨⟨_, _, _, by rw [HE.out, HG.out]; rfl, by rw [HE.out]; exact enOwn_nil _ _ _ hBF.size⟩, hBF⟩
  | true =>
    have HE : Hid (getE n l s = (esFound l s).e) := by show _ = _; unfold getE; rw [hok]; rfl
    have HG : Hid (getB n l s = esHas l s) := by show _ = _; unfold getB; rw [hok]; rfl
    have HK : Hid (bsOkB n (l.map Row.e) = true) := hok
    clear hok d0 d1 d2 d3 d4 d5 d6 f1
    go_wp2_with fail
    refine (l4At_any n _ l s _ (esReads_kept hr hB1) hlen).mono ?_
    rintro x w2 ⟨⟨k, rfl, hk, hlt, hge⟩, hb2⟩
    obtain ⟨he, -⟩ := at_idx HK.out hk hlt hge
    rw [he]
    have hB2 := hB1.trans (hb2.mono hB1.size)
    have hz2 := Nat.le_trans hz1 hb2.size
    have q0 := (hb2.block w.heap.size (by omega)).trans P0.out
    have q1 := (hb2.block (w.heap.size + 1) (by omega)).trans P1.out
    have P2 : Hid _ := q1
    have b0 : w2.cell? ⟨w.heap.size, 0, none⟩ = some (.int .i64 n) := by rw [cell_of_row _ _ _ _ _ _ q0]; rfl
    have b1 : w2.cell? ⟨w.heap.size, 1, none⟩ = some (.slice ao l.length cap) := by rw [cell_of_row _ _ _ _ _ _ q0]; rfl
    have hr2 := esReads_kept hr hB2
    cases hh : esHas l s with
    | false =>
      have HF : Hid (esFound l s = rowZ) := by show _ = _; unfold esFound; rw [if_neg (by unfold esHas at hh; exact of_decide_eq_false hh)]
      have HH : Hid (esHas l s = false) := hh
      obtain ⟨d0, d1, d2, d3, d4, d5, d6⟩ := box7_row q1
      have f1 : ∀ o, w2.frozen? ⟨w.heap.size + 1, o, none⟩ = false := fun o => by simp [World.frozen?, q1]
      clear hb2 hB1 P0 P1 q0 q1 hr hr2 hh he hlt hge
      go_wp2_with fail
      have hBF := hBs _ (hBs _ (hBs _ (hBs _ (hBs _ (hBs _ (hBs _ hB2 0 (.string ⟨#[]⟩)) 1 (.int .i64 0)) 2 (.int .i64 0)) 3 (.string ⟨#[]⟩)) 4 (.slice none 0 0)) 5 (.slice none 0 0)) 6 (.slice none 0 0)
      refine bodyPost_ret (specGet_res rfl rfl (range7 (box7_set P2.out _ _ _ _ _ _ _))) rfl ⟨⟨_, _, _, by rw [HE.out, HG.out, HH.out, HF.out]; rfl, by rw [HE.out, HF.out]; exact enOwn_nil _ _ _ hBF.size⟩, hBF⟩
    | true =>
      have HH : Hid (esHas l s = true) := hh
      clear hb2 hB1 P0 P1 q0 q1 hr hh he hlt hge
      go_wp2_with fail
      refine (l4Get_any n _ l s _ hr2 hs HK.out HH.out).mono ?_
      rintro x w4 ⟨⟨ul, us, uf, rfl, ho⟩, hb4⟩
      obtain ⟨bl, dl, bs, ds, bf, df, rfl, rfl, rfl⟩ := enReads_shape (enOwn_reads ho)
      have hB4 := hB2.trans (hb4.mono hB2.size)
      have q1 := (hb4.block (w.heap.size + 1) (by omega)).trans P2.out
      obtain ⟨d0, d1, d2, d3, d4, d5, d6⟩ := box7_row q1
      have f1 : ∀ o, w4.frozen? ⟨w.heap.size + 1, o, none⟩ = false := fun o => by simp [World.frozen?, q1]
      have P4 : Hid _ := q1
      have HO : Hid _ := ho
      clear hb4 hB2 P2 q1 ho hr2
      generalize esFound l s = r at *
      go_wp2_with fail
      have hBF := hBs _ (hBs _ (hBs _ (hBs _ (hBs _ (hBs _ (hBs _ hB4 0 (.string r.e.key)) 1 (.int .i64 r.e.til)) 2 (.int .i64 r.e.kind)) 3 (.string r.e.text)) 4 (.slice bl r.e.list.length dl)) 5 (.slice bs r.e.scores.length ds)) 6 (.slice bf r.e.fields.length df)
      have oc := fun {W : World} (h : EnOwn W w2.heap.size w4.heap.size (.slice bl r.e.list.length dl) (.slice bs r.e.scores.length ds) (.slice bf r.e.fields.length df) r.e) (o : Nat) (u : Value) => enOwn_cell h ⟨w.heap.size + 1, o, none⟩ u (by show w.heap.size + 1 < _; omega)
      refine bodyPost_ret (specGet_res rfl rfl (range7 (box7_set P4.out _ _ _ _ _ _ _))) rfl ⟨⟨_, _, _, by rw [HE.out, HG.out, HH.out], ?_⟩, hBF⟩
      rw [HE.out]
      exact enOwn_base (oc (oc (oc (oc (oc (oc (oc HO.out _ _) _ _) _ _) _ _) _ _) _ _) _ _) (by omega) (by simp only [setCell_size]; exact Nat.le_refl _)
end Go.Proofs.Ytnefnbojomlaeaa
