/- The program's StreamRange. -/
import Derived.Test.YtbkllceceaedpaaStI
import Derived.Test.YtbkllceceaedpaaStS
namespace Go.Proofs.Ytbkllceceaedpaa
open Go.RowKit
set_option linter.unusedVariables false

/-- the items from f to g, at most so many -/
def rngStep (f g : Int × Int) (c : Int) (ys : List ItRow) (x : ItRow) : List ItRow :=
  if (decide ((ys.length : Int) < c) && (!idLessB (x.e.t, x.e.n) f && !idLessB g (x.e.t, x.e.n))) = true then ys ++ [x] else ys
def itRng (f g : Int × Int) (c : Int) (l : List ItRow) : List ItRow := l.foldl (rngStep f g c) []
theorem itRng_succ {f g : Int × Int} {c : Int} {l : List ItRow} {j : Nat} (h : j < l.length) : itRng f g c (l.take (j + 1)) = rngStep f g c (itRng f g c (l.take j)) (itAt l j) := by
  rw [it_take h]; unfold itRng; rw [List.foldl_append]; rfl
theorem rng_mem {f g : Int × Int} {c : Int} : ∀ (l ys : List ItRow) (x : ItRow), x ∈ l.foldl (rngStep f g c) ys → x ∈ ys ∨ x ∈ l
  | [], ys, x, h => .inl h
  | y :: l, ys, x, h => by
    rcases rng_mem l _ x h with h1 | h1
    · unfold rngStep at h1
      split at h1
      · rcases List.mem_append.1 h1 with h2 | h2
        · exact .inl h2
        · exact .inr (by simp at h2; simp [h2])
      · exact .inl h1
    · exact .inr (List.mem_cons_of_mem _ h1)
theorem rng_len {f g : Int × Int} {c : Int} : ∀ (l ys : List ItRow), (l.foldl (rngStep f g c) ys).length ≤ ys.length + l.length
  | [], ys => by simp
  | y :: l, ys => by
    have h := rng_len (f := f) (g := g) (c := c) l (rngStep f g c ys y)
    have h2 : (rngStep f g c ys y).length ≤ ys.length + 1 := by
      unfold rngStep; split
      · simp
      · omega
    simp only [List.foldl_cons, List.length_cons]
    omega
theorem itRng_mem {f g : Int × Int} {c : Int} {l : List ItRow} {x : ItRow} (h : x ∈ itRng f g c l) : x ∈ l := by
  rcases rng_mem l [] x h with h | h
  · cases h
  · exact h
theorem itRng_len {f g : Int × Int} {c : Int} (l : List ItRow) : (itRng f g c l).length ≤ l.length := by
  have := rng_len (f := f) (g := g) (c := c) l []
  rw [List.length_nil, Nat.zero_add] at this
  exact this
theorem itRng_small {f g : Int × Int} {c : Int} {l : List ItRow} (h : ItsSmall l) : ItsSmall (itRng f g c l) :=
  ⟨Nat.le_trans (itRng_len l) h.len, fun x hx => h.each x (itRng_mem hx)⟩
def itRngIf (ok : Bool) (f g : Int × Int) (c : Int) (l : List ItRow) : List ItRow := if ok = true then itRng f g c l else []
theorem rng_heldStep {wr w2 w3 : World} {B : Nat} (hb : Below w2.heap.size w2 w3) (h : Below B wr w2) (hB : B ≤ w2.heap.size) : Below B wr w3 := h.trans (hb.mono hB)
set_option maxHeartbeats 8000000 in
set_option maxRecDepth 100000 in
theorem implRange_any (t n ft fn tt tn c : Int) (vi vg : Value) (li : List ItRow) (lg : List GpRow) (w : World) (hr : StReads w vi vg li lg) (hs : StSmall li lg) :
    Calls Try.prog 15 #[stV t n vi vg, .agg #[.int .i64 ft, .int .i64 fn], .agg #[.int .i64 tt, .int .i64 tn], .int .i64 c] w fun e w' => (∃ u ys, e = .returned u ∧ ys.map ItRow.e = (itRngIf (stOkB t n li lg) (ft, fn) (tt, tn) c li).map ItRow.e ∧ ItG w' w.heap.size w'.heap.size u ys) ∧ Below w.heap.size w w' := by
  obtain ⟨ai, ci, rfl⟩ := readsR_shape hr.i.rows
  obtain ⟨ag, cg, rfl⟩ := readsR_shape hr.g.rows
  have hlen := hs.i.len
  obtain ⟨i0, hi0, hz0, hz1, hz2⟩ := info_parts itInfo
  obtain ⟨w0, hW⟩ : ∃ W, ((w.alloc (.cells #[.int .i64 t, .int .i64 n, .slice ai li.length ci, .slice ag lg.length cg] 34)).alloc (.cells #[.int .i64 ft, .int .i64 fn] 30)).alloc (.cells #[.int .i64 tt, .int .i64 tn] 30) = W := ⟨_, rfl⟩
  have hB0 : Below w.heap.size w w0 := by rw [← hW]; exact (((Below.refl _ w).alloc (Nat.le_refl _) _).alloc (by simp) _).alloc (by simp; omega) _
  have hz0' : w0.heap.size = w.heap.size + 3 := by rw [← hW]; simp
  obtain ⟨q0, q1, q2⟩ : w0.heap[w.heap.size]? = some _ ∧ w0.heap[w.heap.size + 1]? = some _ ∧ w0.heap[w.heap.size + 2]? = some _ := by rw [← hW]; exact rows3 _ _ _ _
  have Q0 : Hid _ := q0
  have Q1 : Hid _ := q1
  have Q2 : Hid _ := q2
  obtain ⟨c0, c1, c2, c3⟩ := cells4 q0
  clear q0 q1 q2
  go_enter Try.func15, Try.ntmps15
  go_wp2_with fail
  try rw [hW]
  clear hW c0 c1 c2 c3
  refine (implStOk_any t n _ _ li lg _ (stReads_kept hr hB0) hs).mono ?_
  rintro e w1 ⟨rfl, hb1⟩
  have hB1 := hB0.trans (hb1.mono hB0.size)
  have HZ0 : Hid _ := hz0'
  have hz1' := hb1.size
  have q0 := (hb1.block w.heap.size (by omega)).trans Q0.out
  have R0 : Hid _ := q0
  have R1 : Hid _ := (hb1.block (w.heap.size + 1) (by omega)).trans Q1.out
  have R2 : Hid _ := (hb1.block (w.heap.size + 2) (by omega)).trans Q2.out
  clear hb1 hB0 Q0 Q1 Q2
  cases hok : stOkB t n li lg with
  | false =>
    clear q0 hz0' hz1'
    go_wp2_with fail
    go_ret
    exact ⟨⟨.slice none 0 0, [], rfl, by first | rfl | (rw [hok]; rfl), itG_nil hB1.size⟩, hB1⟩
  | true =>
    obtain ⟨c0, c1, c2, c3⟩ := cells4 q0
    clear q0 hz0'
    have HZ1 : Hid _ := hz1'
    clear hz1'
    go_wp2_with fail
    clear c0 c1 c2 c3
    go_loopw [9, 18] (fun o i wr => ∃ j : Nat, j ≤ li.length ∧ i = .int .i64 j ∧ OwnsR itC 3 59 wr w1.heap.size o (itRng (ft, fn) (tt, tn) c (li.take j)) ∧ Below w1.heap.size w1 wr) (fun _ i _ => li.length - (intOf i).toNat)
    case atStart => exact ⟨0, Nat.zero_le _, rfl, World.ownsRow_nil _ _ _ _, Below.refl _ _⟩
    case round =>
      obtain ⟨j, hj, rfl, hO, hb⟩ := hrel
      have hB := hB1.trans (hb.mono hB1.size)
      obtain ⟨YS, hYS⟩ : ∃ y, itRng (ft, fn) (tt, tn) c (li.take j) = y := ⟨_, rfl⟩
      have hyl : YS.length ≤ j := by rw [← hYS]; have := itRng_len (f := (ft, fn)) (g := (tt, tn)) (c := c) (li.take j); rw [List.length_take] at this; omega
      by_cases hlt : j < li.length
      · have HSUC : Hid (itRng (ft, fn) (tt, tn) c (li.take (j + 1)) = rngStep (ft, fn) (tt, tn) c YS (itAt li j)) := by show _ = _; rw [itRng_succ hlt, hYS]
        rw [hYS] at hO
        clear hYS
        obtain ⟨ao, co, rfl⟩ := readsR_shape (ownsR_reads itC_len hO)
        obtain ⟨b, off, rfl, hbb, hnc, hcm, hc⟩ := it_some hr.i.rows (by omega)
        obtain ⟨d0, d1, d2⟩ := it_cells hc hB hbb hlt
        have hk1 : (j : Int) < (li.length : Int) := by omega
        clear hnc hcm hc
        obtain ⟨W1, hW1⟩ : ∃ W, wr.alloc (.cells #[.int .i64 (itAt li j).e.t, .int .i64 (itAt li j).e.n, .slice (itAt li j).a (itAt li j).e.l.length (itAt li j).c] 59) = W := ⟨_, rfl⟩
        have hba : Below wr.heap.size wr W1 := by rw [← hW1]; exact (Below.refl _ wr).alloc (Nat.le_refl _) _
        have QW : Hid (W1.heap[wr.heap.size]? = some (.cells (itC (itAt li j)).toArray 59 (0, 0))) := by show _ = _; rw [← hW1]; exact heap_alloc_new wr _
        have hzw : wr.heap.size < W1.heap.size := by rw [← hW1]; simp
        have hbs := hb.size
        have hbW := hb.trans (hba.mono hbs)
        have HBW : Hid _ := hbW
        have hOW := ownsR_kept hO hba
        have HOW : Hid _ := hOW
        have HNE : Hid (some wr.heap.size ≠ (Value.slice ao YS.length co).ownBlock) := fun e => by have := World.ownsRow.lt hO _ e.symm; omega
        have HS : Hid (∀ w', Below W1.heap.size W1 w' → ((w'.cell? ⟨w.heap.size + 1, 0, none⟩ = some (.int .i64 ft) ∧ w'.cell? ⟨w.heap.size + 1, 1, none⟩ = some (.int .i64 fn)) ∧ (w'.cell? ⟨w.heap.size + 2, 0, none⟩ = some (.int .i64 tt) ∧ w'.cell? ⟨w.heap.size + 2, 1, none⟩ = some (.int .i64 tn)) ∧ (w'.cell? ⟨wr.heap.size, 0, none⟩ = some (.int .i64 (itAt li j).e.t) ∧ w'.cell? ⟨wr.heap.size, 1, none⟩ = some (.int .i64 (itAt li j).e.n) ∧ w'.cell? ⟨wr.heap.size, 2, none⟩ = some (.slice (itAt li j).a (itAt li j).e.l.length (itAt li j).c)) ∧ Below W1.heap.size W1 w')) := fun w' h => by
          have z1 := HZ1.out
          have z0 := HZ0.out
          have e1 := (h.block (w.heap.size + 1) (by omega)).trans ((hbW.block (w.heap.size + 1) (by omega)).trans R1.out)
          have e2 := (h.block (w.heap.size + 2) (by omega)).trans ((hbW.block (w.heap.size + 2) (by omega)).trans R2.out)
          have e3 := (h.block wr.heap.size hzw).trans QW.out
          exact ⟨⟨cellAt_row e1 0, cellAt_row e1 1⟩, ⟨cellAt_row e2 0, cellAt_row e2 1⟩, cells3 e3, h⟩
        clear hO hOW hb hba hB hbW
        have FF := HS.out W1 (Below.refl _ _)
        obtain ⟨⟨f0, f1⟩, ⟨g0, g1⟩, ⟨e0, e1, e2⟩, _⟩ := FF
        cases hA : decide ((YS.length : Int) < c) with
        | false =>
          have hq : Below W1.heap.size W1 W1 := Below.refl _ _
          go_wp2_with fail
          clear f0 f1 g0 g1 e0 e1 e2 d0 d1 d2
          try rw [hW1]
          clear hW1
          have hbb4 := HBW.out.trans (hq.mono HBW.out.size)
          have HST : Hid (itRng (ft, fn) (tt, tn) c (li.take (j + 1)) = YS) := by show _ = _; rw [HSUC.out]; exact if_neg (by rw [hA]; simp)
          have HO4 : Hid _ := ownsR_kept HOW.out hq
          have HB4 : Hid _ := hbb4
          clear hq hbb4
          go_wp2_with fail
          go_roundw
          case rel => exact ⟨j + 1, hlt, by go_num, by rw [HST.out]; exact HO4.out, HB4.out⟩
          case measure => simp [intOf]; omega
        | true =>
          cases hF : idLessB ((itAt li j).e.t, (itAt li j).e.n) (ft, fn) with
          | true =>
            go_wp2_with fail
            clear f0 f1 g0 g1 e0 e1 e2 d0 d1 d2
            try rw [hW1]
            clear hW1
            refine (idLess_ab (itAt li j).e.t (itAt li j).e.n ft fn _).mono ?_
            rw [hF]
            rintro e w2 ⟨rfl, hq⟩
            obtain ⟨_, ⟨g0, g1⟩, ⟨e0, e1, e2⟩, _⟩ := HS.out _ hq
            go_wp2_with fail
            clear g0 g1 e0 e1 e2
            have hbb4 := HBW.out.trans (hq.mono HBW.out.size)
            have HST : Hid (itRng (ft, fn) (tt, tn) c (li.take (j + 1)) = YS) := by show _ = _; rw [HSUC.out]; exact if_neg (by rw [hF]; simp)
            have HO4 : Hid _ := ownsR_kept HOW.out hq
            have HB4 : Hid _ := hbb4
            clear hq hbb4
            go_wp2_with fail
            go_roundw
            case rel => exact ⟨j + 1, hlt, by go_num, by rw [HST.out]; exact HO4.out, HB4.out⟩
            case measure => simp [intOf]; omega
          | false =>
            cases hG : idLessB (tt, tn) ((itAt li j).e.t, (itAt li j).e.n) with
            | true =>
              go_wp2_with fail
              clear f0 f1 g0 g1 e0 e1 e2 d0 d1 d2
              try rw [hW1]
              clear hW1
              refine (idLess_ab (itAt li j).e.t (itAt li j).e.n ft fn _).mono ?_
              rw [hF]
              rintro e w2 ⟨rfl, hq⟩
              obtain ⟨_, ⟨g0, g1⟩, ⟨e0, e1, e2⟩, _⟩ := HS.out _ hq
              go_wp2_with fail
              clear g0 g1 e0 e1 e2
              refine (idLess_ab tt tn (itAt li j).e.t (itAt li j).e.n _).mono ?_
              rw [hG]
              rintro e w3 ⟨rfl, hb3⟩
              have hq3 := hq.trans (hb3.mono hq.size)
              clear hq hb3
              have hq := hq3
              clear hq3
              have hbb4 := HBW.out.trans (hq.mono HBW.out.size)
              have HST : Hid (itRng (ft, fn) (tt, tn) c (li.take (j + 1)) = YS) := by show _ = _; rw [HSUC.out]; exact if_neg (by rw [hF, hG]; simp)
              have HO4 : Hid _ := ownsR_kept HOW.out hq
              have HB4 : Hid _ := hbb4
              clear hq hbb4
              go_wp2_with fail
              go_roundw
              case rel => exact ⟨j + 1, hlt, by go_num, by rw [HST.out]; exact HO4.out, HB4.out⟩
              case measure => simp [intOf]; omega
            | false =>
              go_wp2_with fail
              clear f0 f1 g0 g1 e0 e1 e2 d0 d1 d2
              try rw [hW1]
              clear hW1
              refine (idLess_ab (itAt li j).e.t (itAt li j).e.n ft fn _).mono ?_
              rw [hF]
              rintro e w2 ⟨rfl, hq⟩
              obtain ⟨_, ⟨g0, g1⟩, ⟨e0, e1, e2⟩, _⟩ := HS.out _ hq
              go_wp2_with fail
              clear g0 g1 e0 e1 e2
              refine (idLess_ab tt tn (itAt li j).e.t (itAt li j).e.n _).mono ?_
              rw [hG]
              rintro e w3 ⟨rfl, hb3⟩
              have hq3 := hq.trans (hb3.mono hq.size)
              clear hq hb3
              have hq := hq3
              clear hq3
              have HST : Hid (itRng (ft, fn) (tt, tn) c (li.take (j + 1)) = YS ++ [itAt li j]) := by show _ = _; rw [HSUC.out]; exact if_pos (by rw [hA, hF, hG]; rfl)
              have hbb4 := HBW.out.trans (hq.mono HBW.out.size)
              have hO4 := ownsR_kept HOW.out hq
              have qB := (hq.block wr.heap.size hzw).trans QW.out
              obtain ⟨e0, e1, e2⟩ := cells3 qB
              have hz3 := hq.size
              have hbl : Below w3.heap.size w3 (w3.alloc (.cells #[.int .i64 (itAt li j).e.t, .int .i64 (itAt li j).e.n, .slice (itAt li j).a (itAt li j).e.l.length (itAt li j).c] 59)) := (Below.refl _ w3).alloc (Nat.le_refl _) _
              have hO5 := ownsR_kept hO4 hbl
              have hB5 := hbb4.trans (hbl.mono hbb4.size)
              have hbs4 := hbb4.size
              clear hq hbb4 hO4 qB hbl
              go_wp2_with (at_builtin; refine append_R (c := itC) rfl (.tmp 40) (.tmp 42) 31 rfl w1.heap.size 59 i0 _ 3 40 Try.underlying31 hi0 hz0 hz1 hz2 rfl (by decide) _ _ _ rfl hO5 _ rfl [itAt li j] (it_one_at (heap_alloc_new w3 _)) itC_len itC_one (by unfold maxLen; simp; omega) (by simp; omega) (by simp; omega) ?_)
              intro u4 w4 ho4 hg4
              have HO6 : Hid (OwnsR itC 3 59 w4 w1.heap.size u4 (YS ++ [itAt li j])) := by
                show OwnsR _ _ _ _ _ _ _
                unfold OwnsR; rw [List.length_append, List.flatMap_append]; exact ho4
              have HB6 : Hid _ := hB5.grown hg4 hB5.size (fun k hk => (World.ownsRow.lt hO5 k hk).1)
              clear ho4 hg4 hO5 hB5 e0 e1 e2
              go_wp2_with fail
              go_roundw
              case rel => exact ⟨j + 1, hlt, by go_num, by rw [HST.out]; exact HO6.out, HB6.out⟩
              case measure => simp [intOf]; omega
      · obtain rfl : j = li.length := by omega
        rw [List.take_length] at hYS
        rw [List.take_length, hYS] at hO
        obtain ⟨ao, co, rfl⟩ := readsR_shape (ownsR_reads itC_len hO)
        have hrd : ItsReads wr (.slice ao YS.length co) YS := ⟨ownsR_reads itC_len hO, fun x hx => itIn_kept (hr.i.ins x (itRng_mem (by rw [hYS]; exact hx))) hB⟩
        have hsm : ItsSmall YS := by rw [← hYS]; exact itRng_small hs.i
        have HY : Hid _ := hYS
        clear hYS
        go_wp2_with fail
        refine (copyItems_any _ YS _ hrd hsm).mono ?_
        rintro e w5 ⟨⟨u, ys, rfl, hm, ho⟩, hb5⟩
        have hB5 := hB.trans (hb5.mono hB.size)
        have HM : Hid _ := hm
        clear hm hb5 hrd hsm hO
        go_wp2_with fail
        go_ret
        exact ⟨⟨u, ys, rfl, by rw [HM.out, ← HY.out]; first | rfl | (rw [hok]; rfl), itG_lower ho hB.size (Nat.le_refl _)⟩, hB5⟩
end Go.Proofs.Ytbkllceceaedpaa
