/- The walk of FnExactStreamRange. -/
import Derived.Test.YtbkllceceaedpaaStL
import Derived.Test.YtbkllceceaedpaaStNZ
namespace Go.Proofs.Ytbkllceceaedpaa
open Go.RowKit
set_option linter.unusedVariables false

/-- what follows is shown once, behind all orders: main finds out what it is -/
theorem cut_later {T G : Prop} (main : (Unit → T) → G) (rest : T) : G := main (fun _ => rest)
theorem rng_map {f g : Int × Int} {c : Int} : ∀ {l m : List ItRow} {ys zs : List ItRow}, l.map ItRow.e = m.map ItRow.e → ys.map ItRow.e = zs.map ItRow.e → (l.foldl (rngStep f g c) ys).map ItRow.e = (m.foldl (rngStep f g c) zs).map ItRow.e
  | [], [], _, _, _, h => h
  | [], _ :: _, _, _, h, _ => by cases h
  | _ :: _, [], _, _, h, _ => by cases h
  | x :: l, y :: m, ys, zs, h, h2 => by
    rw [List.map_cons, List.map_cons, List.cons.injEq] at h
    show (l.foldl (rngStep f g c) (rngStep f g c ys x)).map ItRow.e = (m.foldl (rngStep f g c) (rngStep f g c zs y)).map ItRow.e
    refine rng_map h.2 ?_
    have hl : ys.length = zs.length := by have := congrArg List.length h2; simpa using this
    unfold rngStep
    rw [h.1, hl]
    split
    · rw [List.map_append, List.map_append, h2]; simp [h.1]
    · exact h2
theorem rngIf_map {ok : Bool} {f g : Int × Int} {c : Int} {l m : List ItRow} (h : l.map ItRow.e = m.map ItRow.e) : (itRngIf ok f g c l).map ItRow.e = (itRngIf ok f g c m).map ItRow.e := by
  unfold itRngIf; split
  · exact rng_map h rfl
  · rfl
theorem rngIf_small {ok : Bool} {f g : Int × Int} {c : Int} {l : List ItRow} (h : ItsSmall l) : ItsSmall (itRngIf ok f g c l) := by
  unfold itRngIf; split
  · exact itRng_small h
  · exact ⟨Nat.zero_le _, fun x hx => by cases hx⟩
theorem itsN_map : ∀ {l m : List ItRow}, l.map ItRow.e = m.map ItRow.e → itsN l = itsN m
  | [], [], _ => rfl
  | [], _ :: _, h => by cases h
  | _ :: _, [], h => by cases h
  | x :: l, y :: m, h => by
    rw [List.map_cons, List.map_cons, List.cons.injEq] at h
    show itN x.e + itsN l = itN y.e + itsN m
    rw [h.1, itsN_map h.2]
theorem itsL_map : ∀ {l m : List ItRow}, l.map ItRow.e = m.map ItRow.e → itsL l = itsL m
  | [], [], _ => rfl
  | [], _ :: _, h => by cases h
  | _ :: _, [], h => by cases h
  | x :: l, y :: m, h => by
    rw [List.map_cons, List.map_cons, List.cons.injEq] at h
    show x.e.l.length + itsL l = y.e.l.length + itsL m
    rw [h.1, itsL_map h.2]
theorem gpsL_map : ∀ {l m : List GpRow}, l.map GpRow.e = m.map GpRow.e → gpsL l = gpsL m
  | [], [], _ => rfl
  | [], _ :: _, h => by cases h
  | _ :: _, [], h => by cases h
  | x :: l, y :: m, h => by
    rw [List.map_cons, List.map_cons, List.cons.injEq] at h
    show x.e.l.length + gpsL l = y.e.l.length + gpsL m
    rw [h.1, gpsL_map h.2]
theorem room_map {li mi : List ItRow} {lg mg : List GpRow} (hi : mi.map ItRow.e = li.map ItRow.e) (hg : mg.map GpRow.e = lg.map GpRow.e) (h : StRoom li lg) : StRoom mi mg := by
  refine ⟨⟨it_small_map hi h.small.i, gp_small_map hg h.small.g⟩, ?_⟩
  have h1 : mi.length = li.length := by have := congrArg List.length hi; simpa using this
  have h2 : mg.length = lg.length := by have := congrArg List.length hg; simpa using this
  rw [h1, h2, itsL_map hi, gpsL_map hg]; exact h.room
theorem rng_N {f g : Int × Int} {c : Int} : ∀ (l ys : List ItRow), itsN (l.foldl (rngStep f g c) ys) ≤ itsN ys + itsN l
  | [], ys => by show itsN ys ≤ itsN ys + 0; omega
  | y :: l, ys => by
    have h := rng_N (f := f) (g := g) (c := c) l (rngStep f g c ys y)
    have h2 : itsN (rngStep f g c ys y) ≤ itsN ys + itN y.e := by
      unfold rngStep; split
      · rw [itsN_snoc]; exact Nat.le_refl _
      · omega
    show itsN (l.foldl (rngStep f g c) (rngStep f g c ys y)) ≤ itsN ys + (itN y.e + itsN l)
    omega
theorem rngIf_N {ok : Bool} {f g : Int × Int} {c : Int} (l : List ItRow) : itsN (itRngIf ok f g c l) ≤ itsN l := by
  unfold itRngIf; split
  · have := rng_N (f := f) (g := g) (c := c) l []
    have h0 : itsN [] = 0 := rfl
    unfold itRng
    omega
  · exact Nat.zero_le _
theorem below_within {B lo hi : Nat} {w a b : World} (h : Below B w a) (g : Within a b lo hi) (hB : B ≤ lo) (hs : B ≤ w.heap.size) : Below B w b := by
  have := h.size
  exact ⟨g.os.trans h.os, g.tape.trans h.tape, g.output.trans h.output, Nat.le_trans h.size g.size, fun k hk => (g.block k (by omega) (by omega)).trans (h.block k hk)⟩
set_option maxHeartbeats 16000000 in
set_option maxRecDepth 100000 in
theorem walkRange (t n ft fn tt tn c : Int) (vi vg : Value) (li : List ItRow) (lg : List GpRow) (w : World) (hr : StReads w vi vg li lg) (hf : StFit li lg) :
    Calls Try.prog 4 #[stV t n vi vg, .agg #[.int .i64 ft, .int .i64 fn], .agg #[.int .i64 tt, .int .i64 tn], .int .i64 c] w fun e w' => e = .returned (.bool true) ∧ Below w.heap.size w w' := by
  obtain ⟨ai, ci, rfl⟩ := readsR_shape hr.i.rows
  obtain ⟨ag, cg, rfl⟩ := readsR_shape hr.g.rows
  obtain ⟨w0, hW⟩ : ∃ W, ((w.alloc (.cells #[.int .i64 t, .int .i64 n, .slice ai li.length ci, .slice ag lg.length cg] 27)).alloc (.cells #[.int .i64 ft, .int .i64 fn] 23)).alloc (.cells #[.int .i64 tt, .int .i64 tn] 23) = W := ⟨_, rfl⟩
  have hB0 : Below w.heap.size w w0 := by rw [← hW]; exact (((Below.refl _ w).alloc (Nat.le_refl _) _).alloc (by simp) _).alloc (by simp; omega) _
  have HZ0 : Hid (w0.heap.size = w.heap.size + 3) := by show _ = _; rw [← hW]; simp
  obtain ⟨q0, q1, q2⟩ : w0.heap[w.heap.size]? = some _ ∧ w0.heap[w.heap.size + 1]? = some _ ∧ w0.heap[w.heap.size + 2]? = some _ := by rw [← hW]; exact rows3 _ _ _ _
  have HX : Hid (∀ w', Below w0.heap.size w0 w' → (w'.cell? ⟨w.heap.size, 0, none⟩ = some (.int .i64 t) ∧ w'.cell? ⟨w.heap.size, 1, none⟩ = some (.int .i64 n) ∧ w'.cell? ⟨w.heap.size, 2, none⟩ = some (.slice ai li.length ci) ∧ w'.cell? ⟨w.heap.size, 3, none⟩ = some (.slice ag lg.length cg)) ∧ (w'.cell? ⟨w.heap.size + 1, 0, none⟩ = some (.int .i64 ft) ∧ w'.cell? ⟨w.heap.size + 1, 1, none⟩ = some (.int .i64 fn)) ∧ (w'.cell? ⟨w.heap.size + 2, 0, none⟩ = some (.int .i64 tt) ∧ w'.cell? ⟨w.heap.size + 2, 1, none⟩ = some (.int .i64 tn))) := fun w' h => by
    have z0 := HZ0.out
    have e0 := (h.block w.heap.size (by omega)).trans q0
    have e1 := (h.block (w.heap.size + 1) (by omega)).trans q1
    have e2 := (h.block (w.heap.size + 2) (by omega)).trans q2
    exact ⟨cells4 e0, ⟨cellAt_row e1 0, cellAt_row e1 1⟩, ⟨cellAt_row e2 0, cellAt_row e2 1⟩⟩
  clear q0 q1 q2
  obtain ⟨⟨x0, x1, x2, x3⟩, _⟩ := HX.out w0 (Below.refl _ _)
  go_enter Try.func4, Try.ntmps4
  go_wp2_with fail
  try rw [hW]
  clear hW x0 x1 x2 x3
  refine (szStream_len t n _ _ li lg _ (stReads_kept hr hB0) hf).mono ?_
  rintro e w1 ⟨⟨m, rfl, hm⟩, hbr1⟩
  rcases hm with hm | ⟨hm0, hm1, hrm⟩
  · go_wp2_with fail
    go_ret
    exact ⟨rfl, hB0.trans (hbr1.mono hB0.size)⟩
  have HRM : Hid (StRoom li lg) := hrm
  clear hrm
  have HTS : Hid (∀ W, Below w0.heap.size w0 W → Calls Try.prog 10 #[stV t n (.slice ai li.length ci) (.slice ag lg.length cg)] W fun e w' => (∃ bi di bg dg yi yg, e = .returned (stV t n (.slice bi yi.length di) (.slice bg yg.length dg)) ∧ (yi.map ItRow.e = li.map ItRow.e ∧ yg.map GpRow.e = lg.map GpRow.e ∧ StRoom yi yg) ∧ StG w' W.heap.size w'.heap.size (.slice bi yi.length di) (.slice bg yg.length dg) yi yg) ∧ Below W.heap.size W w') := fun W hB => by
    refine (toStream_any t n _ _ li lg W (stReads_kept hr (hB0.trans (hB.mono hB0.size))) HRM.out.small).mono ?_
    rintro e w' ⟨⟨ui, ug, yi, yg, rfl, hmi, hmg, ho⟩, hb⟩
    obtain ⟨bi, di, hui⟩ := readsR_shape (stFor_reads ho).i.rows
    obtain ⟨bg, dg, hug⟩ := readsR_shape (stFor_reads ho).g.rows
    subst hui hug
    exact ⟨⟨bi, di, bg, dg, yi, yg, rfl, ⟨hmi, hmg, room_map hmi hmg HRM.out⟩, stG_of ho⟩, hb⟩
  have HSR : Hid (∀ (zi : List ItRow) (zg : List GpRow), zi.map ItRow.e = li.map ItRow.e ∧ zg.map GpRow.e = lg.map GpRow.e ∧ StRoom zi zg → (itRngIf (stOkB t n zi zg) (ft, fn) (tt, tn) c zi).map ItRow.e = (itRngIf (stOkB t n li lg) (ft, fn) (tt, tn) c li).map ItRow.e) := fun zi zg h => by rw [stOkB_map h.1 h.2.1, rngIf_map h.1]
  have HRN0 : Hid (1 + itsN (itRngIf (stOkB t n li lg) (ft, fn) (tt, tn) c li) ≤ 6000000) := by show _ ≤ _; have := rngIf_N (ok := stOkB t n li lg) (f := (ft, fn)) (g := (tt, tn)) (c := c) li; have := (stRoom_marks HRM.out).1; omega
  obtain ⟨R, hR⟩ : ∃ R, itRngIf (stOkB t n li lg) (ft, fn) (tt, tn) c li = R := ⟨_, rfl⟩
  have HRS : Hid (ItsSmall R) := by show ItsSmall _; rw [← hR]; exact rngIf_small HRM.out.small.i
  have HRN : Hid (1 + itsN R ≤ 6000000) := by show _ ≤ _; rw [← hR]; exact HRN0.out
  rw [hR] at HSR
  clear hR HRN0
  obtain ⟨⟨x0, x1, x2, x3⟩, ⟨f0, f1⟩, ⟨g0, g1⟩⟩ := HX.out w1 hbr1
  go_wp2_with fail
  clear x0 x1 x2 x3 f0 f1 g0 g1 hm0 hm1
  have HS5 : Hid (∀ w', Below w1.heap.size w1 w' → (w'.cell? ⟨w.heap.size, 0, none⟩ = some (.int .i64 t) ∧ w'.cell? ⟨w.heap.size, 1, none⟩ = some (.int .i64 n) ∧ w'.cell? ⟨w.heap.size, 2, none⟩ = some (.slice ai li.length ci) ∧ w'.cell? ⟨w.heap.size, 3, none⟩ = some (.slice ag lg.length cg)) ∧ (w'.cell? ⟨w.heap.size + 1, 0, none⟩ = some (.int .i64 ft) ∧ w'.cell? ⟨w.heap.size + 1, 1, none⟩ = some (.int .i64 fn)) ∧ (w'.cell? ⟨w.heap.size + 2, 0, none⟩ = some (.int .i64 tt) ∧ w'.cell? ⟨w.heap.size + 2, 1, none⟩ = some (.int .i64 tn))) := fun w' h => HX.out w' (hbr1.trans (h.mono hbr1.size))
  apply cut_later
  case main =>
    intro REST
    refine wp_region_held_drew (S := (fun w' => (w'.cell? ⟨w.heap.size, 0, none⟩ = some (.int .i64 t) ∧ w'.cell? ⟨w.heap.size, 1, none⟩ = some (.int .i64 n) ∧ w'.cell? ⟨w.heap.size, 2, none⟩ = some (.slice ai li.length ci) ∧ w'.cell? ⟨w.heap.size, 3, none⟩ = some (.slice ag lg.length cg)) ∧ (w'.cell? ⟨w.heap.size + 1, 0, none⟩ = some (.int .i64 ft) ∧ w'.cell? ⟨w.heap.size + 1, 1, none⟩ = some (.int .i64 fn)) ∧ (w'.cell? ⟨w.heap.size + 2, 0, none⟩ = some (.int .i64 tt) ∧ w'.cell? ⟨w.heap.size + 2, 1, none⟩ = some (.int .i64 tn)))) (by kernel_rfl) (by exact HS5.out _ (Below.refl _ _).drew) (fun hHeld => ?_)
    have hq0 : Below w1.heap.size w1 w1.drew := (Below.refl _ _).drew
    refine takeH (i := 0) (d := (some 22)) (v := ?_) rfl rfl (by kernel_rfl) (by kernel_rfl) (by kernel_rfl) (fun _ _ _ h => h) (by kernel_rfl) ?_ (by assumption) ?_
    rotate_left
    · (intro w hSw; (try dsimp only at hSw); go_simp; try with_reducible rfl)
    try simp only [Act.put, List.setIfInBounds_toArray, List.set_cons_succ, List.set_cons_zero]
    refine takeH (i := 2) (d := (some 24)) (v := ?_) rfl rfl (by kernel_rfl) (by kernel_rfl) (by kernel_rfl) (fun _ _ _ h => h) (by kernel_rfl) ?_ (by assumption) ?_
    rotate_left
    · (intro w hSw; (try dsimp only at hSw); go_simp; try with_reducible rfl)
    try simp only [Act.put, List.setIfInBounds_toArray, List.set_cons_succ, List.set_cons_zero]
    refine takeH (i := 4) (d := (some 26)) (v := ?_) rfl rfl (by kernel_rfl) (by kernel_rfl) (by kernel_rfl) (fun _ _ _ h => h) (by kernel_rfl) ?_ (by assumption) ?_
    rotate_left
    · (intro w hSw; (try dsimp only at hSw); go_simp; try with_reducible rfl)
    try simp only [Act.put, List.setIfInBounds_toArray, List.set_cons_succ, List.set_cons_zero]
    refine takeH (i := 6) (d := (some 28)) (v := ?_) rfl rfl (by kernel_rfl) (by kernel_rfl) (by kernel_rfl) (fun _ _ _ h => h) (by kernel_rfl) ?_ (by assumption) ?_
    rotate_left
    · (intro w hSw; (try dsimp only at hSw); go_simp; try with_reducible rfl)
    try simp only [Act.put, List.setIfInBounds_toArray, List.set_cons_succ, List.set_cons_zero]
    refine wpAnyH_ready (rs := [1]) (by kernel_rfl) (by simp) ?_
    refine AllReadyH.cons rfl (fun K hK => ?_) AllReadyH.nil
    go_simp
    refine (HTS.out _ (hbr1.trans (hq0.mono hbr1.size))).mono ?_
    rintro e wq1 ⟨⟨bi, di, bg, dg, zi, zg, rfl, hz, ho⟩, hb1⟩
    have hq1 := hq0.trans (hb1.mono hq0.size)
    refine hK.out _ _ ?_ (fun hHeld => ?_)
    · exact HS5.out _ hq1
    clear hK K hHeld
    try simp only [Act.put, List.setIfInBounds_toArray, List.set_cons_succ, List.set_cons_zero]
    refine wpAnyH_ready (rs := [3]) (by kernel_rfl) (by simp) ?_
    refine AllReadyH.cons rfl (fun K hK => ?_) AllReadyH.nil
    go_simp
    refine (toId_ab ft fn _).mono ?_
    rintro e wq2 ⟨rfl, hb2⟩
    have hq2 := hq1.trans (hb2.mono hq1.size)
    refine hK.out _ _ ?_ (fun hHeld => ?_)
    · exact HS5.out _ hq2
    clear hK K hHeld
    try simp only [Act.put, List.setIfInBounds_toArray, List.set_cons_succ, List.set_cons_zero]
    refine wpAnyH_ready (rs := [5]) (by kernel_rfl) (by simp) ?_
    refine AllReadyH.cons rfl (fun K hK => ?_) AllReadyH.nil
    go_simp
    refine (toId_ab tt tn _).mono ?_
    rintro e wq3 ⟨rfl, hb3⟩
    have hq3 := hq2.trans (hb3.mono hq2.size)
    refine hK.out _ _ ?_ (fun hHeld => ?_)
    · exact HS5.out _ hq3
    clear hK K hHeld
    try simp only [Act.put, List.setIfInBounds_toArray, List.set_cons_succ, List.set_cons_zero]
    have hs1 := Below.refl wq1.heap.size wq1
    have hs2 := hs1.trans (hb2.mono hs1.size)
    have hs3 := hs2.trans (hb3.mono hs2.size)
    refine wpAnyH_ready (rs := [7]) (by kernel_rfl) (by simp) ?_
    refine AllReadyH.cons rfl (fun K hK => ?_) AllReadyH.nil
    go_simp
    refine (specRange_any t n ft fn tt tn c _ _ zi zg _ (stG_reads (stG_kept ho hs3)) hz.2.2.small).mono ?_; rintro e wl ⟨⟨u, ys, rfl, hy0, hg0⟩, hbl⟩; have hfin := hq3.trans (hbl.mono hq3.size)
    refine hK.out _ _ ?_ (fun hHeld => ?_)
    · exact HS5.out _ hfin
    clear hK K
    try simp only [Act.put, List.setIfInBounds_toArray, List.set_cons_succ, List.set_cons_zero]
    have hy : ys.map ItRow.e = R.map ItRow.e := hy0.trans (HSR.out zi zg hz)
    have hg : ItG wl w1.heap.size wl.heap.size u ys := itG_lower hg0 hq3.size (Nat.le_refl _)
    refine takeH (i := 8) (d := (some 10)) (v := ?_) rfl rfl (by kernel_rfl) (by kernel_rfl) (by kernel_rfl) (fun _ _ _ h => h) (by kernel_rfl) ?_ (by assumption) ?_
    rotate_left
    · (intro w hSw; (try dsimp only at hSw); go_simp; try with_reducible rfl)
    try simp only [Act.put, List.setIfInBounds_toArray, List.set_cons_succ, List.set_cons_zero]
    refine wpAnyH_done (by kernel_rfl) ?_ _
    clear hy0 hg0 hbl ho hz hHeld hs3 hs2 hs1 hb3 hq3 hb2 hq2 hb1 hq1 hq0
    revert bi di bg dg zi zg wl u ys hfin hy hg
    exact REST ()
  case rest =>
    intro bi di bg dg zi zg W5 u0 y0 hb5 hy0 hg0
    have hbr5 := hbr1.trans (hb5.mono hbr1.size)
    have hz5 := hb5.size
    obtain ⟨⟨x0, x1, x2, x3⟩, _⟩ := HX.out W5 hbr5
    clear hb5
    go_wp2_with fail
    clear x0 x1 x2 x3
    refine (HTS.out _ hbr5).mono ?_
    rintro e W6 ⟨⟨ei, fi, eg, fg, xi, xg, rfl, hx, ho6⟩, hb6⟩
    obtain ⟨W7, hW⟩ : ∃ W, W6.alloc (.cells #[.int .i64 t, .int .i64 n, .slice ei xi.length fi, .slice eg xg.length fg] 34) = W := ⟨_, rfl⟩
    have hb7 : Below W6.heap.size W6 W7 := by rw [← hW]; exact (Below.refl _ _).alloc (Nat.le_refl _) _
    have hz7 : W6.heap.size < W7.heap.size := by rw [← hW]; simp
    have Q7 : Hid (W7.heap[W6.heap.size]? = some (.cells #[.int .i64 t, .int .i64 n, .slice ei xi.length fi, .slice eg xg.length fg] 34 (0, 0))) := by show _ = _; rw [← hW]; exact heap_alloc_new _ _
    have hz6 := hb6.size
    have hbr6 := hbr5.trans (hb6.mono hbr5.size)
    have hbr7 := hbr6.trans (hb7.mono hbr6.size)
    have hg7 := itG_kept (itG_kept hg0 hb6) hb7
    have hx7 := stG_kept ho6 hb7
    have HXX : Hid _ := hx
    clear hg0 ho6 hb6 hb7 hbr6 hx
    go_wp2_with fail
    try rw [hW]
    clear hW
    have HS7 : Hid (∀ w', Below W7.heap.size W7 w' → (((w'.cell? ⟨w.heap.size, 0, none⟩ = some (.int .i64 t) ∧ w'.cell? ⟨w.heap.size, 1, none⟩ = some (.int .i64 n) ∧ w'.cell? ⟨w.heap.size, 2, none⟩ = some (.slice ai li.length ci) ∧ w'.cell? ⟨w.heap.size, 3, none⟩ = some (.slice ag lg.length cg)) ∧ (w'.cell? ⟨w.heap.size + 1, 0, none⟩ = some (.int .i64 ft) ∧ w'.cell? ⟨w.heap.size + 1, 1, none⟩ = some (.int .i64 fn)) ∧ (w'.cell? ⟨w.heap.size + 2, 0, none⟩ = some (.int .i64 tt) ∧ w'.cell? ⟨w.heap.size + 2, 1, none⟩ = some (.int .i64 tn))) ∧ (w'.cell? ⟨W6.heap.size, 0, none⟩ = some (.int .i64 t) ∧ w'.cell? ⟨W6.heap.size, 1, none⟩ = some (.int .i64 n) ∧ w'.cell? ⟨W6.heap.size, 2, none⟩ = some (.slice ei xi.length fi) ∧ w'.cell? ⟨W6.heap.size, 3, none⟩ = some (.slice eg xg.length fg)))) := fun w' h => ⟨HX.out w' (hbr7.trans (h.mono hbr7.size)), cells4 ((h.block W6.heap.size hz7).trans Q7.out)⟩
    apply cut_later
    case main =>
      intro REST
      refine wp_region_held_drew (S := (fun w' => (((w'.cell? ⟨w.heap.size, 0, none⟩ = some (.int .i64 t) ∧ w'.cell? ⟨w.heap.size, 1, none⟩ = some (.int .i64 n) ∧ w'.cell? ⟨w.heap.size, 2, none⟩ = some (.slice ai li.length ci) ∧ w'.cell? ⟨w.heap.size, 3, none⟩ = some (.slice ag lg.length cg)) ∧ (w'.cell? ⟨w.heap.size + 1, 0, none⟩ = some (.int .i64 ft) ∧ w'.cell? ⟨w.heap.size + 1, 1, none⟩ = some (.int .i64 fn)) ∧ (w'.cell? ⟨w.heap.size + 2, 0, none⟩ = some (.int .i64 tt) ∧ w'.cell? ⟨w.heap.size + 2, 1, none⟩ = some (.int .i64 tn))) ∧ (w'.cell? ⟨W6.heap.size, 0, none⟩ = some (.int .i64 t) ∧ w'.cell? ⟨W6.heap.size, 1, none⟩ = some (.int .i64 n) ∧ w'.cell? ⟨W6.heap.size, 2, none⟩ = some (.slice ei xi.length fi) ∧ w'.cell? ⟨W6.heap.size, 3, none⟩ = some (.slice eg xg.length fg))))) (by kernel_rfl) (by exact HS7.out _ (Below.refl _ _).drew) (fun hHeld => ?_)
      have hq0 : Below W7.heap.size W7 W7.drew := (Below.refl _ _).drew
      refine takeH (i := 0) (d := (some 32)) (v := ?_) rfl rfl (by kernel_rfl) (by kernel_rfl) (by kernel_rfl) (fun _ _ _ h => h) (by kernel_rfl) ?_ (by assumption) ?_
      rotate_left
      · (intro w hSw; (try dsimp only at hSw); go_simp; try with_reducible rfl)
      try simp only [Act.put, List.setIfInBounds_toArray, List.set_cons_succ, List.set_cons_zero]
      refine takeH (i := 1) (d := (some 33)) (v := ?_) rfl rfl (by kernel_rfl) (by kernel_rfl) (by kernel_rfl) (fun _ _ _ h => h) (by kernel_rfl) ?_ (by assumption) ?_
      rotate_left
      · (intro w hSw; (try dsimp only at hSw); go_simp; try with_reducible rfl)
      try simp only [Act.put, List.setIfInBounds_toArray, List.set_cons_succ, List.set_cons_zero]
      refine takeH (i := 3) (d := (some 35)) (v := ?_) rfl rfl (by kernel_rfl) (by kernel_rfl) (by kernel_rfl) (fun _ _ _ h => h) (by kernel_rfl) ?_ (by assumption) ?_
      rotate_left
      · (intro w hSw; (try dsimp only at hSw); go_simp; try with_reducible rfl)
      try simp only [Act.put, List.setIfInBounds_toArray, List.set_cons_succ, List.set_cons_zero]
      refine takeH (i := 5) (d := (some 37)) (v := ?_) rfl rfl (by kernel_rfl) (by kernel_rfl) (by kernel_rfl) (fun _ _ _ h => h) (by kernel_rfl) ?_ (by assumption) ?_
      rotate_left
      · (intro w hSw; (try dsimp only at hSw); go_simp; try with_reducible rfl)
      try simp only [Act.put, List.setIfInBounds_toArray, List.set_cons_succ, List.set_cons_zero]
      refine wpAnyH_ready (rs := [2]) (by kernel_rfl) (by simp) ?_
      refine AllReadyH.cons rfl (fun K hK => ?_) AllReadyH.nil
      go_simp
      refine (toId_ab ft fn _).mono ?_
      rintro e wq1 ⟨rfl, hb1⟩
      have hq1 := hq0.trans (hb1.mono hq0.size)
      refine hK.out _ _ ?_ (fun hHeld => ?_)
      · exact HS7.out _ hq1
      clear hK K hHeld
      try simp only [Act.put, List.setIfInBounds_toArray, List.set_cons_succ, List.set_cons_zero]
      refine wpAnyH_ready (rs := [4]) (by kernel_rfl) (by simp) ?_
      refine AllReadyH.cons rfl (fun K hK => ?_) AllReadyH.nil
      go_simp
      refine (toId_ab tt tn _).mono ?_
      rintro e wq2 ⟨rfl, hb2⟩
      have hq2 := hq1.trans (hb2.mono hq1.size)
      refine hK.out _ _ ?_ (fun hHeld => ?_)
      · exact HS7.out _ hq2
      clear hK K hHeld
      try simp only [Act.put, List.setIfInBounds_toArray, List.set_cons_succ, List.set_cons_zero]
      refine wpAnyH_ready (rs := [6]) (by kernel_rfl) (by simp) ?_
      refine AllReadyH.cons rfl (fun K hK => ?_) AllReadyH.nil
      go_simp
      refine (implRange_any t n ft fn tt tn c _ _ xi xg _ (stG_reads (stG_kept hx7 hq2)) HXX.out.2.2.small).mono ?_; rintro e wl ⟨⟨u, ys, rfl, hy1, hg1⟩, hbl⟩; have hfin := hq2.trans (hbl.mono hq2.size)
      refine hK.out _ _ ?_ (fun hHeld => ?_)
      · exact HS7.out _ hfin
      clear hK K
      try simp only [Act.put, List.setIfInBounds_toArray, List.set_cons_succ, List.set_cons_zero]
      have hy : ys.map ItRow.e = R.map ItRow.e := hy1.trans (HSR.out xi xg HXX.out)
      have hg : ItG wl W7.heap.size wl.heap.size u ys := itG_lower hg1 hq2.size (Nat.le_refl _)
      refine takeH (i := 7) (d := (some 12)) (v := ?_) rfl rfl (by kernel_rfl) (by kernel_rfl) (by kernel_rfl) (fun _ _ _ h => h) (by kernel_rfl) ?_ (by assumption) ?_
      rotate_left
      · (intro w hSw; (try dsimp only at hSw); go_simp; try with_reducible rfl)
      try simp only [Act.put, List.setIfInBounds_toArray, List.set_cons_succ, List.set_cons_zero]
      refine wpAnyH_done (by kernel_rfl) ?_ _
      clear hy1 hg1 hbl hHeld hb2 hq2 hb1 hq1 hq0
      revert wl u ys hfin hy hg
      exact REST ()
    case rest =>
      intro W8 u1 y1 hb8 hy1 hg1
      have hsm : ItsSmall y1 := it_small_map hy1 HRS.out
      have hNN : 1 + itsN y1 ≤ 6000000 := by rw [itsN_map hy1]; exact HRN.out
      have HY1 : Hid _ := hy1
      have HY0 : Hid _ := hy0
      have hbr8 := hbr7.trans (hb8.mono hbr7.size)
      have hz8 := hb8.size
      have hg8 := itG_kept hg7 hb8
      have hx8 := stG_kept hx7 hb8
      clear hg7 hx7 hy1 hy0
      go_wp2_with fail
      refine (eqItemS_true u1 u0 y1 y0 W8 (itG_reads hg1) (itG_reads hg8) hsm (HY1.out.trans HY0.out.symm)).mono ?_
      rintro e W9 ⟨rfl, hb9⟩
      have hbr9 := hbr8.trans (hb9.mono hbr8.size)
      have hz9 := hb9.size
      have hg9 := itG_kept hg8 hb9
      have hx9 := stG_kept hx8 hb9
      have hr9 := itG_kept hg1 hb9
      have hbx := hb8.trans (hb9.mono hb8.size)
      clear hg8 hx8 hg1 hb8 hb9
      go_wp2_with fail
      have HS10 : Hid (∀ w', Below W9.heap.size W9 w' → (((w'.cell? ⟨w.heap.size, 0, none⟩ = some (.int .i64 t) ∧ w'.cell? ⟨w.heap.size, 1, none⟩ = some (.int .i64 n) ∧ w'.cell? ⟨w.heap.size, 2, none⟩ = some (.slice ai li.length ci) ∧ w'.cell? ⟨w.heap.size, 3, none⟩ = some (.slice ag lg.length cg)) ∧ (w'.cell? ⟨w.heap.size + 1, 0, none⟩ = some (.int .i64 ft) ∧ w'.cell? ⟨w.heap.size + 1, 1, none⟩ = some (.int .i64 fn)) ∧ (w'.cell? ⟨w.heap.size + 2, 0, none⟩ = some (.int .i64 tt) ∧ w'.cell? ⟨w.heap.size + 2, 1, none⟩ = some (.int .i64 tn))) ∧ (w'.cell? ⟨W6.heap.size, 0, none⟩ = some (.int .i64 t) ∧ w'.cell? ⟨W6.heap.size, 1, none⟩ = some (.int .i64 n) ∧ w'.cell? ⟨W6.heap.size, 2, none⟩ = some (.slice ei xi.length fi) ∧ w'.cell? ⟨W6.heap.size, 3, none⟩ = some (.slice eg xg.length fg)) ∧ Below W9.heap.size W9 w')) := fun w' h => ⟨HX.out w' (hbr9.trans (h.mono hbr9.size)), cells4 ((h.block W6.heap.size (by omega)).trans ((hbx.block W6.heap.size hz7).trans Q7.out)), h⟩
      refine wp_region_held_drew (S := (fun w' => (((w'.cell? ⟨w.heap.size, 0, none⟩ = some (.int .i64 t) ∧ w'.cell? ⟨w.heap.size, 1, none⟩ = some (.int .i64 n) ∧ w'.cell? ⟨w.heap.size, 2, none⟩ = some (.slice ai li.length ci) ∧ w'.cell? ⟨w.heap.size, 3, none⟩ = some (.slice ag lg.length cg)) ∧ (w'.cell? ⟨w.heap.size + 1, 0, none⟩ = some (.int .i64 ft) ∧ w'.cell? ⟨w.heap.size + 1, 1, none⟩ = some (.int .i64 fn)) ∧ (w'.cell? ⟨w.heap.size + 2, 0, none⟩ = some (.int .i64 tt) ∧ w'.cell? ⟨w.heap.size + 2, 1, none⟩ = some (.int .i64 tn))) ∧ (w'.cell? ⟨W6.heap.size, 0, none⟩ = some (.int .i64 t) ∧ w'.cell? ⟨W6.heap.size, 1, none⟩ = some (.int .i64 n) ∧ w'.cell? ⟨W6.heap.size, 2, none⟩ = some (.slice ei xi.length fi) ∧ w'.cell? ⟨W6.heap.size, 3, none⟩ = some (.slice eg xg.length fg)) ∧ Below W9.heap.size W9 w'))) (by kernel_rfl) (by exact HS10.out _ (Below.refl _ _).drew) (fun hHeld => ?_)
      refine takeH (i := 0) (d := (some 43)) (v := ?_) rfl rfl (by kernel_rfl) (by kernel_rfl) (by kernel_rfl) (fun _ _ _ h => h) (by kernel_rfl) ?_ (by assumption) ?_
      rotate_left
      · (intro w hSw; (try dsimp only at hSw); go_simp; try with_reducible rfl)
      try simp only [Act.put, List.setIfInBounds_toArray, List.set_cons_succ, List.set_cons_zero]
      refine takeH (i := 1) (d := (some 44)) (v := ?_) rfl rfl (by kernel_rfl) (by kernel_rfl) (by kernel_rfl) (fun _ _ _ h => h) (by kernel_rfl) ?_ (by assumption) ?_
      rotate_left
      · (intro w hSw; (try dsimp only at hSw); go_simp; try with_reducible rfl)
      try simp only [Act.put, List.setIfInBounds_toArray, List.set_cons_succ, List.set_cons_zero]
      refine wpAnyH_ready (rs := [2]) (by kernel_rfl) (by simp) ?_
      refine AllReadyH.cons rfl (fun K hK => ?_) AllReadyH.nil
      go_simp
      refine (HTS.out _ (hbr9.trans (hHeld.2.2.mono hbr9.size))).mono ?_; rintro e wa ⟨⟨pi, ri, pg, rg, si, sg, rfl, hss, hos⟩, hba⟩; have ha := hHeld.2.2.trans (hba.mono hHeld.2.2.size); clear hHeld
      refine hK.out _ _ ?_ (fun hHeld => ?_)
      · exact HS10.out _ ha
      clear hK K
      try simp only [Act.put, List.setIfInBounds_toArray, List.set_cons_succ, List.set_cons_zero]
      refine wpAnyH_ready (rs := [3]) (by kernel_rfl) (by simp) ?_
      refine AllReadyH.cons rfl (fun K hK => ?_) AllReadyH.nil
      go_simp
      refine (eqStream_true t n _ _ _ _ xi si xg sg _ (stG_reads (stG_kept hx9 ha)) (stG_reads hos) HXX.out.2.2.small (HXX.out.1.trans hss.1.symm) (HXX.out.2.1.trans hss.2.1.symm)).mono ?_; rintro e W10 ⟨rfl, hbb⟩; have hb10 := ha.trans (hbb.mono ha.size); clear hHeld
      refine hK.out _ _ ?_ (fun hHeld => ?_)
      · exact HS10.out _ hb10
      clear hK K
      try simp only [Act.put, List.setIfInBounds_toArray, List.set_cons_succ, List.set_cons_zero]
      refine takeH (i := 4) (d := (some 47)) (v := ?_) rfl rfl (by kernel_rfl) (by kernel_rfl) (by kernel_rfl) (fun _ _ _ h => h) (by kernel_rfl) ?_ (by assumption) ?_
      rotate_left
      · (intro w hSw; (try dsimp only at hSw); go_simp; try with_reducible rfl)
      try simp only [Act.put, List.setIfInBounds_toArray, List.set_cons_succ, List.set_cons_zero]
      refine wpAnyH_done (by kernel_rfl) ?_ _
      obtain ⟨_, ⟨x0, x1, x2, x3⟩, _⟩ := HS10.out _ hb10
      have hbr10 := hbr9.trans (hb10.mono hbr9.size)
      have hz10 := hb10.size
      have hg10 := itG_kept hg9 hb10
      have hx10 := stG_kept hx9 hb10
      have hr10 := itG_kept hr9 hb10
      have hroom := stRoom_marks HXX.out.2.2
      clear hg9 hx9 hr9 hb10 hbb hba ha hos hss hHeld
      go_wp2_with fail
      clear x0 x1 x2 x3
      refine (markStream_any t n _ _ xi xg _ _ 1 _ hx10 (by omega) (by omega) hroom.1 hroom.2 HXX.out.2.2.small).mono ?_
      rintro e W11 ⟨rfl, _, hw11⟩
      have hbr11 := below_within hbr10 hw11 (by have := hbr5.size; omega) (Nat.le_refl _)
      have hg11 := itG_within hg10 hw11 (.inl (Nat.le_refl _))
      have hr11 := itG_within hr10 hw11 (.inr (by omega))
      have hz11 := hw11.size
      have hd1 : decide (((1 + itsN xi + gpsN xg : Nat) : Int) < 0) = false := decide_eq_false (by omega)
      clear hg10 hx10 hr10 hw11 hroom
      go_wp2_with fail
      refine (eqItemS_true u1 u0 y1 y0 W11 (itG_reads hr11) (itG_reads hg11) hsm (HY1.out.trans HY0.out.symm)).mono ?_
      rintro e W12 ⟨rfl, hb12⟩
      have hbr12 := hbr11.trans (hb12.mono hbr11.size)
      have hz12 := hb12.size
      have hg12 := itG_kept hg11 hb12
      have hr12 := itG_kept hr11 hb12
      clear hg11 hr11 hb12 hd1
      go_wp2_with fail
      refine (markItemS_any u1 y1 _ _ 1 _ hr12 (by omega) (by omega) hNN hsm).mono ?_
      rintro e W13 ⟨rfl, hr13, hw13⟩
      have hbr13 := below_within hbr12 hw13 (by have := hbr7.size; omega) (Nat.le_refl _)
      have hg13 := itG_within hg12 hw13 (.inl (by omega))
      have hz13 := hw13.size
      clear hg12 hr12 hw13
      go_wp2_with fail
      refine (heldItemS_any u1 y1 1 _ (itG_reads hr13) (by omega) hNN hsm).mono ?_
      rintro e W14 ⟨rfl, hb14⟩
      have hbr14 := hbr13.trans (hb14.mono hbr13.size)
      have hz14 := hb14.size
      have hg14 := itG_kept hg13 hb14
      have hr14 := itG_kept hr13 hb14
      have hd2 : decide (((1 + itsN y1 : Nat) : Int) < 0) = false := decide_eq_false (by omega)
      have hd3 : (((1 + itsN y1 : Nat) : Int) != ((1 + itsN y1 : Nat) : Int)) = false := by simp
      clear hg13 hr13 hb14
      go_wp2_with fail
      have HS24 : Hid (∀ w', Below W14.heap.size W14 w' → (w'.cell? ⟨w.heap.size, 0, none⟩ = some (.int .i64 t) ∧ w'.cell? ⟨w.heap.size, 1, none⟩ = some (.int .i64 n) ∧ w'.cell? ⟨w.heap.size, 2, none⟩ = some (.slice ai li.length ci) ∧ w'.cell? ⟨w.heap.size, 3, none⟩ = some (.slice ag lg.length cg)) ∧ (w'.cell? ⟨w.heap.size + 1, 0, none⟩ = some (.int .i64 ft) ∧ w'.cell? ⟨w.heap.size + 1, 1, none⟩ = some (.int .i64 fn)) ∧ (w'.cell? ⟨w.heap.size + 2, 0, none⟩ = some (.int .i64 tt) ∧ w'.cell? ⟨w.heap.size + 2, 1, none⟩ = some (.int .i64 tn))) := fun w' h => HX.out w' (hbr14.trans (h.mono hbr14.size))
      apply cut_later
      case main =>
        intro REST
        refine wp_region_held_drew (S := (fun w' => (w'.cell? ⟨w.heap.size, 0, none⟩ = some (.int .i64 t) ∧ w'.cell? ⟨w.heap.size, 1, none⟩ = some (.int .i64 n) ∧ w'.cell? ⟨w.heap.size, 2, none⟩ = some (.slice ai li.length ci) ∧ w'.cell? ⟨w.heap.size, 3, none⟩ = some (.slice ag lg.length cg)) ∧ (w'.cell? ⟨w.heap.size + 1, 0, none⟩ = some (.int .i64 ft) ∧ w'.cell? ⟨w.heap.size + 1, 1, none⟩ = some (.int .i64 fn)) ∧ (w'.cell? ⟨w.heap.size + 2, 0, none⟩ = some (.int .i64 tt) ∧ w'.cell? ⟨w.heap.size + 2, 1, none⟩ = some (.int .i64 tn)))) (by kernel_rfl) (by exact HS24.out _ (Below.refl _ _).drew) (fun hHeld => ?_)
        have hq0 : Below W14.heap.size W14 W14.drew := (Below.refl _ _).drew
        refine takeH (i := 0) (d := (some 70)) (v := ?_) rfl rfl (by kernel_rfl) (by kernel_rfl) (by kernel_rfl) (fun _ _ _ h => h) (by kernel_rfl) ?_ (by assumption) ?_
        rotate_left
        · (intro w hSw; (try dsimp only at hSw); go_simp; try with_reducible rfl)
        try simp only [Act.put, List.setIfInBounds_toArray, List.set_cons_succ, List.set_cons_zero]
        refine takeH (i := 2) (d := (some 72)) (v := ?_) rfl rfl (by kernel_rfl) (by kernel_rfl) (by kernel_rfl) (fun _ _ _ h => h) (by kernel_rfl) ?_ (by assumption) ?_
        rotate_left
        · (intro w hSw; (try dsimp only at hSw); go_simp; try with_reducible rfl)
        try simp only [Act.put, List.setIfInBounds_toArray, List.set_cons_succ, List.set_cons_zero]
        refine takeH (i := 4) (d := (some 74)) (v := ?_) rfl rfl (by kernel_rfl) (by kernel_rfl) (by kernel_rfl) (fun _ _ _ h => h) (by kernel_rfl) ?_ (by assumption) ?_
        rotate_left
        · (intro w hSw; (try dsimp only at hSw); go_simp; try with_reducible rfl)
        try simp only [Act.put, List.setIfInBounds_toArray, List.set_cons_succ, List.set_cons_zero]
        refine takeH (i := 6) (d := (some 76)) (v := ?_) rfl rfl (by kernel_rfl) (by kernel_rfl) (by kernel_rfl) (fun _ _ _ h => h) (by kernel_rfl) ?_ (by assumption) ?_
        rotate_left
        · (intro w hSw; (try dsimp only at hSw); go_simp; try with_reducible rfl)
        try simp only [Act.put, List.setIfInBounds_toArray, List.set_cons_succ, List.set_cons_zero]
        refine wpAnyH_ready (rs := [1]) (by kernel_rfl) (by simp) ?_
        refine AllReadyH.cons rfl (fun K hK => ?_) AllReadyH.nil
        go_simp
        refine (HTS.out _ (hbr14.trans (hq0.mono hbr14.size))).mono ?_
        rintro e wq1 ⟨⟨bi, di, bg, dg, zi, zg, rfl, hz, ho⟩, hb1⟩
        have hq1 := hq0.trans (hb1.mono hq0.size)
        refine hK.out _ _ ?_ (fun hHeld => ?_)
        · exact HS24.out _ hq1
        clear hK K hHeld
        try simp only [Act.put, List.setIfInBounds_toArray, List.set_cons_succ, List.set_cons_zero]
        refine wpAnyH_ready (rs := [3]) (by kernel_rfl) (by simp) ?_
        refine AllReadyH.cons rfl (fun K hK => ?_) AllReadyH.nil
        go_simp
        refine (toId_ab ft fn _).mono ?_
        rintro e wq2 ⟨rfl, hb2⟩
        have hq2 := hq1.trans (hb2.mono hq1.size)
        refine hK.out _ _ ?_ (fun hHeld => ?_)
        · exact HS24.out _ hq2
        clear hK K hHeld
        try simp only [Act.put, List.setIfInBounds_toArray, List.set_cons_succ, List.set_cons_zero]
        refine wpAnyH_ready (rs := [5]) (by kernel_rfl) (by simp) ?_
        refine AllReadyH.cons rfl (fun K hK => ?_) AllReadyH.nil
        go_simp
        refine (toId_ab tt tn _).mono ?_
        rintro e wq3 ⟨rfl, hb3⟩
        have hq3 := hq2.trans (hb3.mono hq2.size)
        refine hK.out _ _ ?_ (fun hHeld => ?_)
        · exact HS24.out _ hq3
        clear hK K hHeld
        try simp only [Act.put, List.setIfInBounds_toArray, List.set_cons_succ, List.set_cons_zero]
        have hs1 := Below.refl wq1.heap.size wq1
        have hs2 := hs1.trans (hb2.mono hs1.size)
        have hs3 := hs2.trans (hb3.mono hs2.size)
        refine wpAnyH_ready (rs := [7]) (by kernel_rfl) (by simp) ?_
        refine AllReadyH.cons rfl (fun K hK => ?_) AllReadyH.nil
        go_simp
        refine (implRange_any t n ft fn tt tn c _ _ zi zg _ (stG_reads (stG_kept ho hs3)) hz.2.2.small).mono ?_; rintro e wl ⟨⟨u, ys, rfl, hy0, hg0⟩, hbl⟩; have hfin := hq3.trans (hbl.mono hq3.size)
        refine hK.out _ _ ?_ (fun hHeld => ?_)
        · exact HS24.out _ hfin
        clear hK K
        try simp only [Act.put, List.setIfInBounds_toArray, List.set_cons_succ, List.set_cons_zero]
        have hy : ys.map ItRow.e = R.map ItRow.e := hy0.trans (HSR.out zi zg hz)
        have hg : ItG wl W14.heap.size wl.heap.size u ys := itG_lower hg0 hq3.size (Nat.le_refl _)
        refine takeH (i := 8) (d := (some 16)) (v := ?_) rfl rfl (by kernel_rfl) (by kernel_rfl) (by kernel_rfl) (fun _ _ _ h => h) (by kernel_rfl) ?_ (by assumption) ?_
        rotate_left
        · (intro w hSw; (try dsimp only at hSw); go_simp; try with_reducible rfl)
        try simp only [Act.put, List.setIfInBounds_toArray, List.set_cons_succ, List.set_cons_zero]
        refine wpAnyH_done (by kernel_rfl) ?_ _
        clear hy0 hg0 hbl ho hz hHeld hs3 hs2 hs1 hb3 hq3 hb2 hq2 hb1 hq1 hq0
        revert bi di bg dg zi zg wl u ys hfin hy hg
        exact REST ()
      case rest =>
        intro bi2 di2 bg2 dg2 zi2 zg2 W15 u2 y2 hb15 hy2 hg2
        have HY2 : Hid _ := hy2
        have hsm2 : ItsSmall y2 := it_small_map hy2 HRS.out
        have hbr15 := hbr14.trans (hb15.mono hbr14.size)
        have hg15 := itG_kept hg14 hb15
        have hr15 := itG_kept hr14 hb15
        clear hy2 hb15 hg14 hr14
        go_wp2_with fail
        refine (eqItemS_true u2 u0 y2 y0 W15 (itG_reads hg2) (itG_reads hg15) hsm2 (HY2.out.trans HY0.out.symm)).mono ?_
        rintro e W16 ⟨rfl, hb16⟩
        have hbr16 := hbr15.trans (hb16.mono hbr15.size)
        have hr16 := itG_kept hr15 hb16
        clear hg2 hg15 hr15 hb16
        go_wp2_with fail
        refine (heldItemS_any u1 y1 1 _ (itG_reads hr16) (by omega) hNN hsm).mono ?_
        rintro e W17 ⟨rfl, hb17⟩
        have hbr17 := hbr16.trans (hb17.mono hbr16.size)
        clear hb17 hr16
        go_wp2_with fail
        go_ret
        exact ⟨rfl, hB0.trans (hbr17.mono hB0.size)⟩
end Go.Proofs.Ytbkllceceaedpaa
