/- What stands under a key of a base that is ok: the program's BaseGet. -/
import Derived.Test.YtnefnbojomlaeaaEnS
namespace Go.Proofs.Ytnefnbojomlaeaa
open Go.RowKit
set_option linter.unusedVariables false

theorem get_res {w : World} {tmps : Array Value} {g : Nat} {x0 x1 x2 x3 x4 x5 x6 : Value} {bb : Bool} (hp : tmps[4]?.getD undef = .pointer (some ⟨g, 0, none⟩)) (hb : tmps[5]?.getD undef = .bool bb)
    (hg : w.rangeAt g 0 [x0, x1, x2, x3, x4, x5, x6]) : (results Try.f7 tmps).run Try.prog w = .ok (.tuple #[.agg #[x0, x1, x2, x3, x4, x5, x6], .bool bb]) w := by
  have hl := run_loadVar_mid (P := Try.prog) w g 0 30 [x0, x1, x2, x3, x4, x5, x6] _ hg Try.underlying30 rfl (by kernel_rfl)
  simp [results, Try.results7, asAddr, hp, hb, hl]
def getE (n : Int) (l : List Row) (s : ByteArray) : Ent := if bsOkB n (l.map Row.e) = true then (esFound l s).e else enZ
def getB (n : Int) (l : List Row) (s : ByteArray) : Bool := bsOkB n (l.map Row.e) && esHas l s
theorem enOwn_nil (w : World) (lo hi : Nat) (h : lo ≤ hi) : EnOwn w lo hi (.slice none 0 0) (.slice none 0 0) (.slice none 0 0) enZ :=
  ⟨lo, lo, Nat.le_refl _, Nat.le_refl _, h, ⟨World.ownsRow_nil _ _ _ _, fun k hk => by cases hk⟩, ⟨World.ownsRow_nil _ _ _ _, fun k hk => by cases hk⟩, ⟨World.ownsRow_nil _ _ _ _, fun k hk => by cases hk⟩⟩
theorem nilReads (w : World) : EnReads w (.slice none 0 0) (.slice none 0 0) (.slice none 0 0) enZ :=
  ⟨.inl ⟨rfl, none, 0, rfl, fun _ => rfl⟩, .inl ⟨rfl, none, 0, rfl, fun _ => rfl⟩, .inl ⟨rfl, none, 0, rfl, fun _ => rfl⟩⟩
theorem found_in {w : World} {v : Value} {l : List Row} (hr : EsReads w v l) (s : ByteArray) : RowIn w (esFound l s) := by
  unfold esFound; split
  · next h => exact hr.ins _ (esAt_mem h)
  · exact nilReads w
theorem found_small {l : List Row} (hs : EsSmall l) (s : ByteArray) : EnSmall (esFound l s).e := by
  unfold esFound; split
  · next h => exact hs.each _ (esAt_mem h)
  · exact ⟨by show 0 ≤ _; omega, by show 0 ≤ _; omega, by show 0 ≤ _; omega, by show 0 ≤ _; omega, by show 0 ≤ _; omega⟩
theorem enOwn_base {w : World} {lo lo' hi hi' : Nat} {vl vs vf : Value} {e : Ent} (h : EnOwn w lo hi vl vs vf e) (hl : lo' ≤ lo) (hh : hi ≤ hi') : EnOwn w lo' hi' vl vs vf e := by
  obtain ⟨a, b, h1, h2, h3, h4, h5, h6⟩ := h
  exact ⟨a, b, by omega, h2, by omega, ⟨owns_base h4.1 hl, h4.2⟩, h5, ⟨h6.1, fun k hk => Nat.lt_of_lt_of_le (h6.2 k hk) hh⟩⟩
set_option maxHeartbeats 8000000 in
set_option maxRecDepth 100000 in
theorem implBaseGet_any (n : Int) (v : Value) (l : List Row) (s : ByteArray) (w : World) (hr : EsReads w v l) (hs : EsSmall l) :
    Calls Try.prog 7 #[bsV n v, .string s] w fun x w' => (∃ ul us uf, x = .returned (.tuple #[enV (getE n l s) ul us uf, .bool (getB n l s)]) ∧ EnOwn w' w.heap.size w'.heap.size ul us uf (getE n l s)) ∧ Below w.heap.size w w' := by
  obtain ⟨ao, cap, rfl⟩ := readsR_shape hr.rows
  have hlen := hs.len
  go_enter Try.func7, Try.ntmps7
  go_wp2_with fail
  obtain ⟨w0, hW⟩ : ∃ W, (w.alloc (.cells #[.int .i64 n, .slice ao l.length cap] 35)).alloc (.cells #[.string ⟨#[]⟩, .int .i64 0, .int .i64 0, .string ⟨#[]⟩, .slice none 0 0, .slice none 0 0, .slice none 0 0] 30) = W := ⟨_, rfl⟩
  have hB0 : Below w.heap.size w w0 := by rw [← hW]; exact ((Below.refl _ w).alloc (Nat.le_refl _) _).alloc (by simp) _
  have HZ0 : Hid (w0.heap.size = w.heap.size + 2) := by show _ = _; rw [← hW]; simp
  obtain ⟨q0, q1⟩ : w0.heap[w.heap.size]? = some _ ∧ w0.heap[w.heap.size + 1]? = some _ := by rw [← hW]; exact two_rows _ _ _
  rw [hW]
  have Q0 : Hid _ := q0
  have Q1 : Hid _ := q1
  clear hW q0 q1
  refine (implBaseOk_any n _ l _ (esReads_kept hr hB0) hs).mono ?_
  rintro x w1 ⟨rfl, hb1⟩
  have hB1 := hB0.trans (hb1.mono hB0.size)
  have hz1 := hb1.size
  rw [HZ0.out] at hz1
  have q0 := (hb1.block w.heap.size (by rw [HZ0.out]; omega)).trans Q0.out
  have q1 := (hb1.block (w.heap.size + 1) (by rw [HZ0.out]; omega)).trans Q1.out
  have P0 : Hid _ := q0
  have P1 : Hid _ := q1
  have hBs : ∀ W, Below w.heap.size w W → ∀ o u, Below w.heap.size w (W.setCell ⟨w.heap.size + 1, o, none⟩ u) := fun W h o u => h.setCell (p := ⟨w.heap.size + 1, o, none⟩) (by show w.heap.size ≤ w.heap.size + 1; omega) u
  have b0 : w1.cell? ⟨w.heap.size, 0, none⟩ = some (.int .i64 n) := by rw [cell_of_row _ _ _ _ _ _ q0]; rfl
  have b1 : w1.cell? ⟨w.heap.size, 1, none⟩ = some (.slice ao l.length cap) := by rw [cell_of_row _ _ _ _ _ _ q0]; rfl
  have d := box7_row q1
  obtain ⟨d0, d1, d2, d3, d4, d5, d6⟩ := d
  have f1 : ∀ o, w1.frozen? ⟨w.heap.size + 1, o, none⟩ = false := fun o => by simp [World.frozen?, q1]
  clear hb1 Q0 Q1 hB0 q0 q1
  cases hok : bsOkB n (l.map Row.e) with
  | false =>
    have HE : Hid (getE n l s = enZ) := by show _ = _; unfold getE; rw [hok]; rfl
    have HG : Hid (getB n l s = false) := by show _ = _; unfold getB; rw [hok]; rfl
    clear hok hr
    go_wp2_with fail
    have hBF := hBs _ (hBs _ (hBs _ (hBs _ (hBs _ (hBs _ (hBs _ hB1 0 (.string ⟨#[]⟩)) 1 (.int .i64 0)) 2 (.int .i64 0)) 3 (.string ⟨#[]⟩)) 4 (.slice none 0 0)) 5 (.slice none 0 0)) 6 (.slice none 0 0)
    refine bodyPost_ret (get_res rfl rfl (range7 (box7_set P1.out _ _ _ _ _ _ _))) rfl ⟨⟨_, _, _, by rw [HE.out, HG.out]; rfl, by rw [HE.out]; exact enOwn_nil _ _ _ hBF.size⟩, hBF⟩
  | true =>
    have HE : Hid (getE n l s = (esFound l s).e) := by show _ = _; unfold getE; rw [hok]; rfl
    have HG : Hid (getB n l s = esHas l s) := by show _ = _; unfold getB; rw [hok]; rfl
    clear hok d0 d1 d2 d3 d4 d5 d6 f1
    go_wp2_with fail
    refine (entryUnder_any n _ l s _ (esReads_kept hr hB1) hlen).mono ?_
    rintro x w2 ⟨rfl, hb2⟩
    have hB2 := hB1.trans (hb2.mono hB1.size)
    have P2 : Hid _ := (hb2.block (w.heap.size + 1) (by omega)).trans P1.out
    have hz2 := Nat.le_trans hz1 hb2.size
    have hin := found_in (esReads_kept hr hB2) s
    have hsm := found_small hs s
    clear hb2 hB1 P0 P1 b0 b1 hr
    generalize esFound l s = r at *
    generalize esHas l s = hh at *
    go_wp2_with fail
    obtain ⟨w3, hW⟩ : ∃ W, w2.alloc (.cells #[.string r.e.key, .int .i64 r.e.til, .int .i64 r.e.kind, .string r.e.text, .slice r.al r.e.list.length r.cl, .slice r.as_ r.e.scores.length r.cs, .slice r.af r.e.fields.length r.cf] 30) = W := ⟨_, rfl⟩
    have hb3 : Below w2.heap.size w2 w3 := by rw [← hW]; exact (Below.refl _ _).alloc (Nat.le_refl _) _
    rw [hW]
    clear hW
    have hB3 := hB2.trans (hb3.mono hB2.size)
    have P3 : Hid _ := (hb3.block (w.heap.size + 1) (by omega)).trans P2.out
    have hz3 := Nat.le_trans hz2 hb3.size
    have hin3 := rowIn_kept hin hb3
    clear hb3 hB2 P2 hin
    refine (copyEntry_any r.e _ _ _ _ hin3 hsm).mono ?_
    rintro x w4 ⟨⟨ul, us, uf, rfl, ho⟩, hb4⟩
    obtain ⟨bl, dl, bs, ds, bf, df, rfl, rfl, rfl⟩ := enReads_shape (enOwn_reads ho)
    have hB4 := hB3.trans (hb4.mono hB3.size)
    have q1 := (hb4.block (w.heap.size + 1) (by omega)).trans P3.out
    obtain ⟨d0, d1, d2, d3, d4, d5, d6⟩ := box7_row q1
    have f1 : ∀ o, w4.frozen? ⟨w.heap.size + 1, o, none⟩ = false := fun o => by simp [World.frozen?, q1]
    have P4 : Hid _ := q1
    have HO : Hid _ := ho
    clear hb4 hB3 P3 q1 hin3 hsm ho
    go_wp2_with fail
    have hBF := hBs _ (hBs _ (hBs _ (hBs _ (hBs _ (hBs _ (hBs _ hB4 0 (.string r.e.key)) 1 (.int .i64 r.e.til)) 2 (.int .i64 r.e.kind)) 3 (.string r.e.text)) 4 (.slice bl r.e.list.length dl)) 5 (.slice bs r.e.scores.length ds)) 6 (.slice bf r.e.fields.length df)
    have oc := fun {W : World} (h : EnOwn W w3.heap.size w4.heap.size (.slice bl r.e.list.length dl) (.slice bs r.e.scores.length ds) (.slice bf r.e.fields.length df) r.e) (o : Nat) (u : Value) => enOwn_cell h ⟨w.heap.size + 1, o, none⟩ u (by show w.heap.size + 1 < _; omega)
    refine bodyPost_ret (get_res rfl rfl (range7 (box7_set P4.out _ _ _ _ _ _ _))) rfl ⟨⟨_, _, _, by rw [HE.out, HG.out], ?_⟩, hBF⟩
    rw [HE.out]
    exact enOwn_base (oc (oc (oc (oc (oc (oc (oc HO.out _ _) _ _) _ _) _ _) _ _) _ _) _ _) (by omega) (by simp only [setCell_size]; exact Nat.le_refl _)
end Go.Proofs.Ytnefnbojomlaeaa
