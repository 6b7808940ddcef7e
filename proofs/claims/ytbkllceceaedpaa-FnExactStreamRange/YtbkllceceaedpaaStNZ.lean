/- Several texts in one: ItN GpN StN ItZ GpZ StZ. -/
import Derived.Test.YtbkllceceaedpaaItM
import Derived.Test.YtbkllceceaedpaaGpM
import Derived.Test.YtbkllceceaedpaaStC
/- Marked items asked for again. -/
namespace Go.Proofs.Ytbkllceceaedpaa
open Go.RowKit
set_option linter.unusedVariables false

theorem itMks_at : ∀ (l : List ItRow) (k j : Nat), j < l.length → itAt (itMks k l) j = itMk (k + itsN (l.take j)) (itAt l j)
  | [], k, j, h => by simp at h
  | x :: l, k, 0, h => rfl
  | x :: l, k, j + 1, h => by
    have := itMks_at l (k + itN x.e) j (by simpa using h)
    rw [List.take_succ_cons]
    show itAt (itMk k x :: itMks (k + itN x.e) l) (j + 1) = itMk (k + (itN x.e + itsN (l.take j))) (itAt (x :: l) (j + 1))
    rw [← Nat.add_assoc]
    exact this
set_option maxRecDepth 100000 in
set_option maxHeartbeats 8000000 in
theorem heldItemS_any (v : Value) (l : List ItRow) (k : Nat) (w : World) (hr : ItsReads w v (itMks k l)) (hk : 0 < k) (hm : k + itsN l ≤ 6000000) (hs : ItsSmall l) :
    Calls Try.prog 19 #[v, .int .i64 (k : Int)] w fun e w' => e = .returned (.int .i64 ((k + itsN l : Nat) : Int)) ∧ Below w.heap.size w w' := by
  obtain ⟨ao, cap, rfl⟩ := readsR_shape hr.rows
  have hlen := hs.len
  have HLL : Hid ((itMks k l).length = l.length) := itMks_len l k
  rw [itMks_len]
  go_enter Try.func19, Try.ntmps19
  go_wp2_with fail
  go_loopw [1, 5] (fun c i wr => ∃ j : Nat, j ≤ l.length ∧ i = .int .i64 j ∧ c = .int .i64 ((k + itsN (l.take j) : Nat) : Int) ∧ Below w.heap.size w wr) (fun _ i _ => l.length - (intOf i).toNat)
  case atStart => exact ⟨0, Nat.zero_le _, rfl, rfl, Below.refl _ _⟩
  case round =>
    obtain ⟨j, hj, rfl, rfl, hB⟩ := hrel
    by_cases hlt : j < l.length
    · have hltm : j < (itMks k l).length := by rw [HLL.out]; exact hlt
      obtain ⟨b, off, rfl, hb, _, _, hc⟩ := it_some hr.rows (by omega)
      have hcl := it_cells hc hB hb hltm
      have hin := itIn_kept (hr.ins _ (itAt_mem hltm)) hB
      rw [itMks_at l k j hlt] at hcl hin
      have hjl : (j : Int) < (l.length : Int) := by omega
      have hsm := (hs.each _ (itAt_mem hlt)).len
      have hrt := itsN_take l j
      rw [it_drop hlt] at hrt
      have HST : Hid (itsN (l.take (j + 1)) = itsN (l.take j) + itN (itAt l j).e) := by show _ = _; rw [it_take hlt, itsN_snoc]
      have hkb : k + itsN (l.take j) + itN (itAt l j).e ≤ k + itsN l := by
        have hrt2 : itsN (l.take j) + (itN (itAt l j).e + itsN (l.drop (j + 1))) = itsN l := hrt
        omega
      obtain ⟨K, hK⟩ : ∃ K, k + itsN (l.take j) = K := ⟨_, rfl⟩
      have HK : Hid (k + itsN (l.take j) = K) := hK
      have hK0 : 0 < K := by omega
      rw [hK] at hkb hcl hin ⊢
      unfold itN at hkb
      have hK1 : (0 : Int) < (K : Int) := by omega
      have HC : Hid (((k + itsN (l.take (j + 1)) : Nat) : Int) = (K : Int) + 1 + 1 + 2 * ((itAt l j).e.l.length : Int)) := by show _ = _; rw [HST.out, ← Nat.add_assoc, HK.out]; unfold itN; omega
      have HIN : Hid (PrReads wr (.slice (itAt l j).a (itAt l j).e.l.length (itAt l j).c) (prMarks (K + 2) (itAt l j).e.l.length)) := by
        have h1 : PrReads wr (.slice (itAt l j).a (itMk K (itAt l j)).e.l.length (itAt l j).c) (prMarks (K + 2) (itAt l j).e.l.length) := hin
        rw [itMk_l] at h1; exact h1
      have c0 : wr.cell? ⟨b, off + j * 3, none⟩ = some (.int .i64 (K : Int)) := hcl.1
      have c1 : wr.cell? ⟨b, off + j * 3 + 1, none⟩ = some (.int .i64 ((K : Int) + 1)) := hcl.2.1
      have c2 : wr.cell? ⟨b, off + j * 3 + 2, none⟩ = some (.slice (itAt l j).a (itAt l j).e.l.length (itAt l j).c) := by have h2 := hcl.2.2; rw [itMk_l] at h2; exact h2
      have hn0 : ((K : Int) != (K : Int)) = false := by simp
      have hn1 : ((K : Int) + 1 != (K : Int) + 1) = false := by simp
      have hsz := hB.size
      have hbr : b < wr.heap.size := by omega
      clear hc hcl hin hrt hK
      go_wp2_with fail
      have hheld := heldPairS_any _ (itAt l j).e.l.length (K + 2) _ HIN.out (by omega) (by omega) hsm
      rw [show ((K + 2 : Nat) : Int) = (K : Int) + 1 + 1 by omega] at hheld
      refine hheld.mono ?_
      rintro e w4 ⟨rfl, hb4⟩
      have hB4 := hB.trans (hb4.mono hB.size)
      have hnn : decide ((K : Int) + 1 + 1 + 2 * ((itAt l j).e.l.length : Int) < 0) = false := decide_eq_false (by omega)
      clear hb4 c0 c1 c2 hheld
      go_wp2_with fail
      go_roundw
      case rel => exact ⟨j + 1, hlt, by go_num, by rw [HC.out], hB4⟩
      case measure => simp [intOf]; omega
    · obtain rfl : j = l.length := by omega
      rw [List.take_length]
      go_wp2_with fail
      go_ret
      exact ⟨rfl, hB⟩
end Go.Proofs.Ytbkllceceaedpaa
/- Marked groups asked for again. -/
namespace Go.Proofs.Ytbkllceceaedpaa
open Go.RowKit
set_option linter.unusedVariables false

theorem gpMks_at : ∀ (l : List GpRow) (k j : Nat), j < l.length → gpAt (gpMks k l) j = gpMk (k + gpsN (l.take j)) (gpAt l j)
  | [], k, j, h => by simp at h
  | x :: l, k, 0, h => rfl
  | x :: l, k, j + 1, h => by
    have := gpMks_at l (k + gpN x.e) j (by simpa using h)
    rw [List.take_succ_cons]
    show gpAt (gpMk k x :: gpMks (k + gpN x.e) l) (j + 1) = gpMk (k + (gpN x.e + gpsN (l.take j))) (gpAt (x :: l) (j + 1))
    rw [← Nat.add_assoc]
    exact this
theorem gp_heldOn {wr w2 w3 : World} {b o : Nat} {x : Value} (hb : b < wr.heap.size) (h3 : Below w2.heap.size w2 w3) (h : w2.cell? ⟨b, o, none⟩ = some x ∧ Below wr.heap.size wr w2) : w3.cell? ⟨b, o, none⟩ = some x ∧ Below wr.heap.size wr w3 :=
  ⟨(h3.cell (p := ⟨b, o, none⟩) (Nat.lt_of_lt_of_le hb h.2.size)).trans h.1, h.2.trans (h3.mono h.2.size)⟩
set_option maxRecDepth 100000 in
set_option maxHeartbeats 8000000 in
theorem heldGroupS_any (v : Value) (l : List GpRow) (k : Nat) (w : World) (hr : GpsReads w v (gpMks k l)) (hk : 0 < k) (hm : k + gpsN l ≤ 8000000) (hs : GpsSmall l) :
    Calls Try.prog 57 #[v, .int .i64 (k : Int)] w fun e w' => e = .returned (.int .i64 ((k + gpsN l : Nat) : Int)) ∧ Below w.heap.size w w' := by
  obtain ⟨ao, cap, rfl⟩ := readsR_shape hr.rows
  have hlen := hs.len
  have HLL : Hid ((gpMks k l).length = l.length) := gpMks_len l k
  rw [gpMks_len]
  go_enter Try.func57, Try.ntmps57
  go_wp2_with fail
  go_loopw [1, 5] (fun c i wr => ∃ j : Nat, j ≤ l.length ∧ i = .int .i64 j ∧ c = .int .i64 ((k + gpsN (l.take j) : Nat) : Int) ∧ Below w.heap.size w wr) (fun _ i _ => l.length - (intOf i).toNat)
  case atStart => exact ⟨0, Nat.zero_le _, rfl, rfl, Below.refl _ _⟩
  case round =>
    obtain ⟨j, hj, rfl, rfl, hB⟩ := hrel
    by_cases hlt : j < l.length
    · have hltm : j < (gpMks k l).length := by rw [HLL.out]; exact hlt
      obtain ⟨b, off, rfl, hb, _, _, hc⟩ := gp_some hr.rows (by omega)
      have hcl := gp_cells hc hB hb hltm
      have hin := gpIn_kept (hr.ins _ (gpAt_mem hltm)) hB
      rw [gpMks_at l k j hlt] at hcl hin
      have hjl : (j : Int) < (l.length : Int) := by omega
      have hsm := (hs.each _ (gpAt_mem hlt)).len
      have hrt := gpsN_take l j
      rw [gp_drop hlt] at hrt
      have HST : Hid (gpsN (l.take (j + 1)) = gpsN (l.take j) + gpN (gpAt l j).e) := by show _ = _; rw [gp_take hlt, gpsN_snoc]
      have hkb : k + gpsN (l.take j) + gpN (gpAt l j).e ≤ k + gpsN l := by
        have hrt2 : gpsN (l.take j) + (gpN (gpAt l j).e + gpsN (l.drop (j + 1))) = gpsN l := hrt
        omega
      obtain ⟨K, hK⟩ : ∃ K, k + gpsN (l.take j) = K := ⟨_, rfl⟩
      have HK : Hid (k + gpsN (l.take j) = K) := hK
      have hK0 : 0 < K := by omega
      rw [hK] at hkb hcl hin ⊢
      unfold gpN at hkb
      have hK1 : (0 : Int) < (K : Int) := by omega
      have HC : Hid (((k + gpsN (l.take (j + 1)) : Nat) : Int) = (K : Int) + 1 + 1 + 1 + 5 * ((gpAt l j).e.l.length : Int)) := by show _ = _; rw [HST.out, ← Nat.add_assoc, HK.out]; unfold gpN; omega
      have HIN : Hid (WtReads wr (.slice (gpAt l j).a (gpAt l j).e.l.length (gpAt l j).c) (wtMarks (K + 3) (gpAt l j).e.l.length)) := by
        have h1 : WtReads wr (.slice (gpAt l j).a (gpMk K (gpAt l j)).e.l.length (gpAt l j).c) (wtMarks (K + 3) (gpAt l j).e.l.length) := hin
        rw [gpMk_l] at h1; exact h1
      have c0 : wr.cell? ⟨b, off + j * 4, none⟩ = some (.string (mk (K : Int))) := hcl.1
      have c1 : wr.cell? ⟨b, off + j * 4 + 1, none⟩ = some (.int .i64 ((K : Int) + 1)) := hcl.2.1
      have c2 : wr.cell? ⟨b, off + j * 4 + 2, none⟩ = some (.int .i64 ((K : Int) + 1 + 1)) := hcl.2.2.1
      have c3 : wr.cell? ⟨b, off + j * 4 + 3, none⟩ = some (.slice (gpAt l j).a (gpAt l j).e.l.length (gpAt l j).c) := by have h2 := hcl.2.2.2; rw [gpMk_l] at h2; exact h2
      have hn1 : ((K : Int) + 1 != (K : Int) + 1) = false := by simp
      have hne := ne_self (mk (K : Int))
      have hn2 : ((K : Int) + 1 + 1 != (K : Int) + 1 + 1) = false := by simp
      have hsz := hB.size
      have hbr : b < wr.heap.size := by omega
      clear hc hcl hin hrt hK
      go_wp2_with fail
      go_region_held3 (fun w' => w'.cell? ⟨b, off + j * 4, none⟩ = some (.string (mk (K : Int))) ∧ Below wr.heap.size wr w') (first | exact ⟨c0, (Below.refl _ _).drew⟩ | assumption | go_keep) (first
        | (go_at_call 63; refine (mark_any _ _ hK1 (by omega)).mono ?_; rintro e w3 ⟨rfl, hb3⟩; have hk3 := gp_heldOn hbr hb3 ‹_›))
      have hB3 : Below w.heap.size w w3 := hB.trans (hk3.2.mono hsz)
      have d1 := (hk3.2.cell (p := ⟨b, off + j * 4 + 1, none⟩) hbr).trans c1
      have d2 := (hk3.2.cell (p := ⟨b, off + j * 4 + 2, none⟩) hbr).trans c2
      have d3 := (hk3.2.cell (p := ⟨b, off + j * 4 + 3, none⟩) hbr).trans c3
      have HIN3 : Hid _ := readsR_kept HIN.out hk3.2
      clear hk3 hb3 c0 c1 c2 c3 hB HIN
      go_wp2_with fail
      have hheld := heldWaitS_any _ (gpAt l j).e.l.length (K + 3) _ HIN3.out (by omega) (by omega) hsm
      rw [show ((K + 3 : Nat) : Int) = (K : Int) + 1 + 1 + 1 by omega] at hheld
      refine hheld.mono ?_
      rintro e w4 ⟨rfl, hb4⟩
      have hB4 := hB3.trans (hb4.mono hB3.size)
      have hnn : decide ((K : Int) + 1 + 1 + 1 + 5 * ((gpAt l j).e.l.length : Int) < 0) = false := decide_eq_false (by omega)
      clear hb4 d1 d2 d3 hheld
      go_wp2_with fail
      go_roundw
      case rel => exact ⟨j + 1, hlt, by go_num, by rw [HC.out], hB4⟩
      case measure => simp [intOf]; omega
    · obtain rfl : j = l.length := by omega
      rw [List.take_length]
      go_wp2_with fail
      go_ret
      exact ⟨rfl, hB⟩
end Go.Proofs.Ytbkllceceaedpaa
/- A stream marked, and asked for again. -/
namespace Go.Proofs.Ytbkllceceaedpaa
open Go.RowKit
set_option linter.unusedVariables false

/-- a stream's lists, each in a stretch of its own, rows and their lists mixed -/
def StG (w : World) (lo hi : Nat) (vi vg : Value) (li : List ItRow) (lg : List GpRow) : Prop := ∃ m, lo ≤ m ∧ m ≤ hi ∧ ItG w lo m vi li ∧ GpG w m hi vg lg
theorem stG_of {w : World} {lo hi : Nat} {vi vg : Value} {li : List ItRow} {lg : List GpRow} (h : StFor w lo hi vi vg li lg) : StG w lo hi vi vg li lg := by
  obtain ⟨m, h1, h2, h3, h4⟩ := h; exact ⟨m, h1, h2, itG_of h3, gpG_of h4⟩
theorem stG_reads {w : World} {lo hi : Nat} {vi vg : Value} {li : List ItRow} {lg : List GpRow} (h : StG w lo hi vi vg li lg) : StReads w vi vg li lg := by
  obtain ⟨m, h1, h2, h3, h4⟩ := h; exact ⟨itG_reads h3, gpG_reads h4⟩
theorem stG_kept {w w' : World} {lo hi : Nat} {vi vg : Value} {li : List ItRow} {lg : List GpRow} (h : StG w lo hi vi vg li lg) (hb : Below w.heap.size w w') : StG w' lo hi vi vg li lg := by
  obtain ⟨m, h1, h2, h3, h4⟩ := h; exact ⟨m, h1, h2, itG_kept h3 hb, gpG_kept h4 hb⟩
theorem stG_within {w w' : World} {lo hi p q : Nat} {vi vg : Value} {li : List ItRow} {lg : List GpRow} (h : StG w lo hi vi vg li lg) (hw : Within w w' p q) (hap : hi ≤ p ∨ q ≤ lo) : StG w' lo hi vi vg li lg := by
  obtain ⟨m, h1, h2, h3, h4⟩ := h; exact ⟨m, h1, h2, itG_within h3 hw (by omega), gpG_within h4 hw (by omega)⟩
theorem stG_lower {w : World} {lo lo' hi hi' : Nat} {vi vg : Value} {li : List ItRow} {lg : List GpRow} (h : StG w lo hi vi vg li lg) (hl : lo' ≤ lo) (hh : hi ≤ hi') : StG w lo' hi' vi vg li lg := by
  obtain ⟨m, h1, h2, h3, h4⟩ := h; exact ⟨m, by omega, by omega, itG_lower h3 hl (Nat.le_refl _), gpG_lower h4 (Nat.le_refl _) hh⟩
set_option maxHeartbeats 4000000 in
theorem markStream_any (t n : Int) (vi vg : Value) (li : List ItRow) (lg : List GpRow) (lo hi k : Nat) (w : World) (ho : StG w lo hi vi vg li lg) (hhi : hi ≤ w.heap.size) (hk : 0 < k) (hm : k + itsN li ≤ 6000000) (hm2 : k + itsN li + gpsN lg ≤ 8000000) (hs : StSmall li lg) :
    Calls Try.prog 17 #[stV t n vi vg, .int .i64 (k : Int)] w fun e w' => e = .returned (.int .i64 ((k + itsN li + gpsN lg : Nat) : Int)) ∧ StG w' lo hi vi vg (itMks k li) (gpMks (k + itsN li) lg) ∧ Within w w' lo hi := by
  obtain ⟨ai, ci, rfl⟩ := readsR_shape (stG_reads ho).i.rows
  obtain ⟨ag, cg, rfl⟩ := readsR_shape (stG_reads ho).g.rows
  obtain ⟨w0, hW⟩ : ∃ W, w.alloc (.cells #[.int .i64 t, .int .i64 n, .slice ai li.length ci, .slice ag lg.length cg] 34) = W := ⟨_, rfl⟩
  have hB : Below w.heap.size w w0 := by rw [← hW]; exact (Below.refl _ w).alloc (Nat.le_refl _) _
  have hz0 : w0.heap.size = w.heap.size + 1 := by rw [← hW]; simp
  have Q0 : Hid (w0.heap[w.heap.size]? = some (.cells #[.int .i64 t, .int .i64 n, .slice ai li.length ci, .slice ag lg.length cg] 34 (0, 0))) := by show _ = _; rw [← hW]; exact heap_alloc_new _ _
  obtain ⟨m, h1, h2, h3, h4⟩ := stG_kept ho hB
  have c2 : w0.cell? ⟨w.heap.size, 2, none⟩ = some (.slice ai li.length ci) := cellAt_row Q0.out 2
  clear ho
  go_enter Try.func17, Try.ntmps17
  go_wp2_with fail
  try rw [hW]
  clear hW c2
  refine (markItemS_any _ li lo m k _ h3 (by omega) hk hm hs.i).mono ?_
  rintro e w1 ⟨rfl, hi1, hw1⟩
  have q1 := (hw1.block w.heap.size (by omega) (by omega)).trans Q0.out
  have c3 : w1.cell? ⟨w.heap.size, 3, none⟩ = some (.slice ag lg.length cg) := cellAt_row q1 3
  have h4' := gpG_within h4 hw1 (by omega)
  have hz1 := hw1.size
  clear h3 h4 q1
  go_wp2_with fail
  refine (markGroupS_any _ lg m hi (k + itsN li) _ h4' (by omega) (by omega) hm2 hs.g).mono ?_
  rintro e w2 ⟨rfl, hg2, hw2⟩
  clear c3
  go_wp2_with fail
  go_ret
  refine ⟨rfl, ⟨m, h1, h2, itG_within hi1 hw2 (by omega), ?_⟩, within_trans (within_below hB lo hi) (within_trans (within_mono hw1 (Nat.le_refl _) h2) (within_mono hw2 h1 (Nat.le_refl _)))⟩
  exact hg2
set_option maxHeartbeats 4000000 in
theorem heldStream_any (t n : Int) (vi vg : Value) (li : List ItRow) (lg : List GpRow) (k : Nat) (w : World) (hr : StReads w vi vg (itMks k li) (gpMks (k + itsN li) lg)) (hk : 0 < k) (hm : k + itsN li ≤ 6000000) (hm2 : k + itsN li + gpsN lg ≤ 8000000) (hs : StSmall li lg) :
    Calls Try.prog 22 #[stV t n vi vg, .int .i64 (k : Int)] w fun e w' => e = .returned (.int .i64 ((k + itsN li + gpsN lg : Nat) : Int)) ∧ Below w.heap.size w w' := by
  obtain ⟨ai, ci, rfl⟩ := readsR_shape hr.i.rows
  obtain ⟨ag, cg, rfl⟩ := readsR_shape hr.g.rows
  obtain ⟨w0, hW⟩ : ∃ W, w.alloc (.cells #[.int .i64 t, .int .i64 n, .slice ai (itMks k li).length ci, .slice ag (gpMks (k + itsN li) lg).length cg] 34) = W := ⟨_, rfl⟩
  have hB : Below w.heap.size w w0 := by rw [← hW]; exact (Below.refl _ w).alloc (Nat.le_refl _) _
  have hz0 : w0.heap.size = w.heap.size + 1 := by rw [← hW]; simp
  have Q0 : Hid (w0.heap[w.heap.size]? = some (.cells #[.int .i64 t, .int .i64 n, .slice ai (itMks k li).length ci, .slice ag (gpMks (k + itsN li) lg).length cg] 34 (0, 0))) := by show _ = _; rw [← hW]; exact heap_alloc_new _ _
  have c2 : w0.cell? ⟨w.heap.size, 2, none⟩ = some (.slice ai (itMks k li).length ci) := cellAt_row Q0.out 2
  go_enter Try.func22, Try.ntmps22
  go_wp2_with fail
  try rw [hW]
  clear hW c2
  refine (heldItemS_any _ li k _ (its_kept hr.i hB) hk hm hs.i).mono ?_
  rintro e w1 ⟨rfl, hb1⟩
  have hB1 := hB.trans (hb1.mono hB.size)
  have q1 := (hb1.block w.heap.size (by omega)).trans Q0.out
  have c3 : w1.cell? ⟨w.heap.size, 3, none⟩ = some (.slice ag (gpMks (k + itsN li) lg).length cg) := cellAt_row q1 3
  have hd : decide (((k + itsN li : Nat) : Int) < 0) = false := decide_eq_false (by omega)
  clear q1 hb1
  go_wp2_with fail
  refine (heldGroupS_any _ lg (k + itsN li) _ (gps_kept hr.g hB1) (by omega) hm2 hs.g).mono ?_
  rintro e w2 ⟨rfl, hb2⟩
  have hB2 := hB1.trans (hb2.mono hB1.size)
  have hd2 : decide (((k + itsN li + gpsN lg : Nat) : Int) < 0) = false := decide_eq_false (by omega)
  clear c3 hb2
  go_wp2_with fail
  go_ret
  exact ⟨rfl, hB2⟩
end Go.Proofs.Ytbkllceceaedpaa
/- How many fields a purse lets items hold in all. -/
namespace Go.Proofs.Ytbkllceceaedpaa
open Go.RowKit
set_option linter.unusedVariables false

/-- the lengths of all lists -/
def itsL : List ItRow → Nat
  | [] => 0
  | x :: l => x.e.l.length + itsL l
theorem itsL_snoc : ∀ (l : List ItRow) (x : ItRow), itsL (l ++ [x]) = itsL l + x.e.l.length
  | [], x => by show x.e.l.length + 0 = 0 + x.e.l.length; omega
  | y :: l, x => by show y.e.l.length + itsL (l ++ [x]) = y.e.l.length + itsL l + x.e.l.length; rw [itsL_snoc l]; omega
theorem itsN_L : ∀ (l : List ItRow), itsN l = 2 * l.length + 2 * itsL l
  | [] => rfl
  | x :: l => by show itN x.e + itsN l = 2 * (l.length + 1) + 2 * (x.e.l.length + itsL l); rw [itsN_L l]; unfold itN; omega
theorem szW_room {α : Type} {wt : α → Int} (hw : ∀ x, 0 ≤ wt x) {l : List α} {left : Int} (h : 0 ≤ szW wt l left) : szW wt l left + (l.length : Int) ≤ left := by
  have h0 : szW wt l left = szWTo wt l left l.length := by
    unfold szW at h ⊢; split at h
    · omega
    · rename_i hn; exact if_neg hn
  have h1 := szWTo_mono hw (l := l) (left := left) (Nat.zero_le l.length)
  have h2 : szWTo wt l left 0 = left - l.length := by simp [szWTo]
  omega
set_option maxHeartbeats 2000000 in
theorem szItem_len (x : ItE) (v : Value) (left : Int) (w : World) (hr : PrReads w v x.l) (hf : ItFit x) (hl : 0 ≤ left) (hl2 : left ≤ 1048576) :
    Calls Try.prog 64 #[itV x v, .int .i64 left] w fun e w' => (∃ n : Int, e = .returned (.int .i64 n) ∧ (n < 0 ∨ 0 ≤ n ∧ n + (x.l.length : Int) ≤ left ∧ ItSmall x)) ∧ Below w.heap.size w w' := by
  obtain ⟨ao, cap, rfl⟩ := readsR_shape hr
  have hB : ∀ A, Below w.heap.size w (w.alloc A) := fun A => (Below.refl _ w).alloc (Nat.le_refl _) A
  go_enter Try.func64, Try.ntmps64
  go_wp2_with fail
  refine (szPairS_any _ x.l left _ (readsR_kept hr (hB _)) hl hl2 hf.l hf.len).mono ?_
  rintro e w1 ⟨rfl, hb1⟩
  have hB1 := (hB _).trans (hb1.mono (hB _).size)
  clear hb1
  rcases Int.lt_or_le (szW prW x.l left) 0 with hm | hm
  · go_wp2_with fail
    go_ret
    exact ⟨⟨_, rfl, .inl (by omega)⟩, hB1⟩
  · have hq := szW_len prW_pos hm
    have h1 := hq.1
    have h2 := hq.2.1
    have H3 : Hid (szW prW x.l left + (x.l.length : Int) ≤ left) := by show _ ≤ _; exact szW_room prW_pos hm
    clear hq
    go_wp2_with fail
    go_ret
    exact ⟨⟨_, rfl, .inr ⟨hm, H3.out, ⟨by omega⟩⟩⟩, hB1⟩
set_option maxHeartbeats 4000000 in
theorem szItemS_len (v : Value) (l : List ItRow) (left : Int) (w : World) (hr : ItsReads w v l) (hf : ∀ x ∈ l, ItFit x.e) (hlen : l.length ≤ maxLen) (hl : 0 ≤ left) (hl2 : left ≤ 1048576) :
    Calls Try.prog 30 #[v, .int .i64 left] w fun x w' => (∃ n : Int, x = .returned (.int .i64 n) ∧ (n < 0 ∨ 0 ≤ n ∧ n + (l.length : Int) + (itsL l : Int) ≤ left ∧ ItsSmall l)) ∧ Below w.heap.size w w' := by
  obtain ⟨ao, cap, rfl⟩ := readsR_shape hr.rows
  unfold maxLen at hlen
  rcases Int.lt_or_le (left - (l.length : Int)) 0 with h1 | h1
  · go_enter Try.func30, Try.ntmps30
    go_wp2_with fail
    go_ret
    exact ⟨⟨_, rfl, .inl (by omega)⟩, Below.refl _ _⟩
  · have HLEN : Hid (l.length ≤ 1048576) := by show _ ≤ _; omega
    go_enter Try.func30, Try.ntmps30
    go_wp2_with fail
    go_loopw [1, 5] (fun c i wr => ∃ (k : Nat) (n : Int), k ≤ l.length ∧ i = .int .i64 k ∧ c = .int .i64 n ∧ 0 ≤ n ∧ Hid (n + (l.length : Int) + (itsL (l.take k) : Int) ≤ left) ∧ n ≤ left ∧ (∀ j, j < k → ItSmall (itAt l j).e) ∧ Below w.heap.size w wr) (fun _ i _ => l.length - (intOf i).toNat)
    case atStart => exact ⟨0, _, Nat.zero_le _, rfl, rfl, h1, by show _ ≤ _; simp [itsL], by omega, fun j hj => by omega, Below.refl _ _⟩
    case round =>
      obtain ⟨k, n, hk, rfl, rfl, hn0, HN, hn1, hsm, hB⟩ := hrel
      have HSM : Hid (∀ j, j < k → ItSmall (itAt l j).e) := hsm
      clear hsm
      by_cases hlt : k < l.length
      · obtain ⟨b, off, rfl, hb, hnc, hcm, hc⟩ := it_some hr.rows (by omega)
        obtain ⟨c0, c1, c2⟩ := it_cells hc hB hb hlt
        have hk1 : (k : Int) < (l.length : Int) := by omega
        have hin := itIn_kept (hr.ins _ (itAt_mem hlt)) hB
        have hff := hf _ (itAt_mem hlt)
        have HT : Hid (itsL (l.take (k + 1)) = itsL (l.take k) + (itAt l k).e.l.length) := by show _ = _; rw [it_take hlt, itsL_snoc]
        clear hc hnc hcm
        go_wp2_with fail
        refine (szItem_len (itAt l k).e _ n _ hin hff hn0 (by omega)).mono ?_
        rintro x w3 ⟨⟨m, rfl, hm⟩, hb3⟩
        have hB3 := hB.trans (hb3.mono hB.size)
        clear hb3 hB c0 c1 c2 hin hff
        rcases hm with hm | ⟨hm0, hm1, hms⟩
        · go_wp2_with fail
          go_ret
          exact ⟨⟨_, rfl, .inl (by omega)⟩, hB3⟩
        · have HMS : Hid _ := hms
          have HN2 : Hid (m + (l.length : Int) + (itsL (l.take (k + 1)) : Int) ≤ left) := by
            show _ ≤ _
            have q1 := HN.out
            have q2 := HT.out
            omega
          clear hms HT HN
          go_wp2_with fail
          go_roundw
          case rel => exact ⟨k + 1, m, hlt, by go_num, rfl, hm0, HN2, by omega, fun j hj => by
            by_cases e : j = k
            · rw [e]; exact HMS.out
            · exact HSM.out j (by omega), hB3⟩
          case measure => simp [intOf]; omega
      · obtain rfl : k = l.length := by omega
        have HN2 : Hid (n + (l.length : Int) + (itsL l : Int) ≤ left) := by show _ ≤ _; have := HN.out; rwa [List.take_length] at this
        clear HN
        go_wp2_with fail
        go_ret
        refine ⟨⟨n, rfl, .inr ⟨hn0, HN2.out, HLEN.out, fun x hx => ?_⟩⟩, hB⟩
        obtain ⟨j, hj, rfl⟩ := List.getElem_of_mem hx
        have := HSM.out j hj
        rwa [itAt_get hj] at this
end Go.Proofs.Ytbkllceceaedpaa
/- How many waits a purse lets groups hold in all. -/
namespace Go.Proofs.Ytbkllceceaedpaa
open Go.RowKit
set_option linter.unusedVariables false

/-- the lengths of all lists -/
def gpsL : List GpRow → Nat
  | [] => 0
  | x :: l => x.e.l.length + gpsL l
theorem gpsL_snoc : ∀ (l : List GpRow) (x : GpRow), gpsL (l ++ [x]) = gpsL l + x.e.l.length
  | [], x => by show x.e.l.length + 0 = 0 + x.e.l.length; omega
  | y :: l, x => by show y.e.l.length + gpsL (l ++ [x]) = y.e.l.length + gpsL l + x.e.l.length; rw [gpsL_snoc l]; omega
theorem gpsN_L : ∀ (l : List GpRow), gpsN l = 3 * l.length + 5 * gpsL l
  | [] => rfl
  | x :: l => by show gpN x.e + gpsN l = 3 * (l.length + 1) + 5 * (x.e.l.length + gpsL l); rw [gpsN_L l]; unfold gpN; omega
set_option maxHeartbeats 4000000 in
theorem szWaitS_len (v : Value) (l : List Wt) (left : Int) (w : World) (hr : WtReads w v l) (hf : ∀ x ∈ l, WtFit x) (hlen : l.length ≤ maxLen) (hl : 0 ≤ left) (hl2 : left ≤ 1048576) :
    Calls Try.prog 88 #[v, .int .i64 left] w fun x w' => (∃ n : Int, x = .returned (.int .i64 n) ∧ (n < 0 ∨ 0 ≤ n ∧ n + (l.length : Int) ≤ left ∧ WtSmall l)) ∧ Below w.heap.size w w' := by
  obtain ⟨ao, cap, rfl⟩ := readsR_shape hr
  unfold maxLen at hlen
  rcases Int.lt_or_le (left - (l.length : Int)) 0 with h1 | h1
  · go_enter Try.func88, Try.ntmps88
    go_wp2_with fail
    go_ret
    exact ⟨⟨_, rfl, .inl (by omega)⟩, Below.refl _ _⟩
  · have HLEN : Hid (l.length ≤ 1048576) := by show _ ≤ _; omega
    go_enter Try.func88, Try.ntmps88
    go_wp2_with fail
    go_loopw [1, 5] (fun c i wr => ∃ (k : Nat) (n : Int), k ≤ l.length ∧ i = .int .i64 k ∧ c = .int .i64 n ∧ 0 ≤ n ∧ n + (l.length : Int) ≤ left ∧ (∀ j, j < k → (wtAt l j).who.size ≤ 1048576) ∧ Below w.heap.size w wr) (fun _ i _ => l.length - (intOf i).toNat)
    case atStart => exact ⟨0, _, Nat.zero_le _, rfl, rfl, h1, by omega, fun j hj => by omega, Below.refl _ _⟩
    case round =>
      obtain ⟨k, n, hk, rfl, rfl, hn0, hn1, hsm, hB⟩ := hrel
      have HSM : Hid (∀ j, j < k → (wtAt l j).who.size ≤ 1048576) := hsm
      clear hsm
      by_cases hlt : k < l.length
      · obtain ⟨b, off, rfl, hb, hnc, hcm, hc⟩ := wt_some hr (by omega)
        obtain ⟨c0, c1, c2, c3, c4⟩ := wt_cells hc hB hb hlt
        have hk1 : (k : Int) < (l.length : Int) := by omega
        have hff := (hf _ (wtAt_mem hlt)).who
        clear hc hnc hcm
        go_wp2_with fail
        refine (szWait_any (wtAt l k) n _ hn0 (by omega) hff).mono ?_
        rintro x w3 ⟨⟨m, rfl, hm⟩, hb3⟩
        have hB3 := hB.trans (hb3.mono hB.size)
        clear hb3 hB c0 c1 c2 c3 c4 hff
        rcases hm with hm | ⟨hm0, hm1, hms⟩
        · go_wp2_with fail
          go_ret
          exact ⟨⟨_, rfl, .inl (by omega)⟩, hB3⟩
        · have HMS : Hid ((wtAt l k).who.size ≤ 1048576) := hms
          clear hms
          go_wp2_with fail
          go_roundw
          case rel => exact ⟨k + 1, m, hlt, by go_num, rfl, hm0, by omega, fun j hj => by
            by_cases e : j = k
            · rw [e]; exact HMS.out
            · exact HSM.out j (by omega), hB3⟩
          case measure => simp [intOf]; omega
      · obtain rfl : k = l.length := by omega
        go_wp2_with fail
        go_ret
        refine ⟨⟨n, rfl, .inr ⟨hn0, hn1, HLEN.out, fun x hx => ?_⟩⟩, hB⟩
        obtain ⟨j, hj, rfl⟩ := List.getElem_of_mem hx
        have := HSM.out j hj
        rwa [wtAt_get hj] at this
set_option maxHeartbeats 2000000 in
theorem szGroup_len (x : GpE) (v : Value) (left : Int) (w : World) (hr : WtReads w v x.l) (hf : GpFit x) (hl : 0 ≤ left) (hl2 : left ≤ 1048576) :
    Calls Try.prog 65 #[gpV x v, .int .i64 left] w fun e w' => (∃ n : Int, e = .returned (.int .i64 n) ∧ (n < 0 ∨ 0 ≤ n ∧ n + (x.l.length : Int) ≤ left ∧ GpSmall x)) ∧ Below w.heap.size w w' := by
  obtain ⟨ao, cap, rfl⟩ := readsR_shape hr
  have hB : ∀ A, Below w.heap.size w (w.alloc A) := fun A => (Below.refl _ w).alloc (Nat.le_refl _) A
  have hn := hf.name
  unfold maxLen at hn
  rcases Int.lt_or_le (left - (x.name.size : Int)) 0 with h | h
  · go_enter Try.func65, Try.ntmps65
    go_wp2_with fail
    go_ret
    exact ⟨⟨_, rfl, .inl (by omega)⟩, hB _⟩
  go_enter Try.func65, Try.ntmps65
  go_wp2_with fail
  refine (szWaitS_len _ x.l (left - (x.name.size : Int)) _ (readsR_kept hr (hB _)) hf.l hf.len h (by omega)).mono ?_
  rintro e w1 ⟨⟨m, rfl, hm⟩, hb1⟩
  have hB1 := (hB _).trans (hb1.mono (hB _).size)
  clear hb1
  rcases hm with hm | ⟨hm0, hm1, hms⟩
  · go_wp2_with fail
    go_ret
    exact ⟨⟨_, rfl, .inl (by omega)⟩, hB1⟩
  · have HM : Hid _ := hms
    clear hms
    go_wp2_with fail
    go_ret
    exact ⟨⟨_, rfl, .inr ⟨hm0, by omega, ⟨by omega, HM.out.len, HM.out.each⟩⟩⟩, hB1⟩
set_option maxHeartbeats 4000000 in
theorem szGroupS_len (v : Value) (l : List GpRow) (left : Int) (w : World) (hr : GpsReads w v l) (hf : ∀ x ∈ l, GpFit x.e) (hlen : l.length ≤ maxLen) (hl : 0 ≤ left) (hl2 : left ≤ 1048576) :
    Calls Try.prog 31 #[v, .int .i64 left] w fun x w' => (∃ n : Int, x = .returned (.int .i64 n) ∧ (n < 0 ∨ 0 ≤ n ∧ n + (l.length : Int) + (gpsL l : Int) ≤ left ∧ GpsSmall l)) ∧ Below w.heap.size w w' := by
  obtain ⟨ao, cap, rfl⟩ := readsR_shape hr.rows
  unfold maxLen at hlen
  rcases Int.lt_or_le (left - (l.length : Int)) 0 with h1 | h1
  · go_enter Try.func31, Try.ntmps31
    go_wp2_with fail
    go_ret
    exact ⟨⟨_, rfl, .inl (by omega)⟩, Below.refl _ _⟩
  · have HLEN : Hid (l.length ≤ 1048576) := by show _ ≤ _; omega
    go_enter Try.func31, Try.ntmps31
    go_wp2_with fail
    go_loopw [1, 5] (fun c i wr => ∃ (k : Nat) (n : Int), k ≤ l.length ∧ i = .int .i64 k ∧ c = .int .i64 n ∧ 0 ≤ n ∧ Hid (n + (l.length : Int) + (gpsL (l.take k) : Int) ≤ left) ∧ n ≤ left ∧ (∀ j, j < k → GpSmall (gpAt l j).e) ∧ Below w.heap.size w wr) (fun _ i _ => l.length - (intOf i).toNat)
    case atStart => exact ⟨0, _, Nat.zero_le _, rfl, rfl, h1, by show _ ≤ _; simp [gpsL], by omega, fun j hj => by omega, Below.refl _ _⟩
    case round =>
      obtain ⟨k, n, hk, rfl, rfl, hn0, HN, hn1, hsm, hB⟩ := hrel
      have HSM : Hid (∀ j, j < k → GpSmall (gpAt l j).e) := hsm
      clear hsm
      by_cases hlt : k < l.length
      · obtain ⟨b, off, rfl, hb, hnc, hcm, hc⟩ := gp_some hr.rows (by omega)
        obtain ⟨c0, c1, c2, c3⟩ := gp_cells hc hB hb hlt
        have hk1 : (k : Int) < (l.length : Int) := by omega
        have hin := gpIn_kept (hr.ins _ (gpAt_mem hlt)) hB
        have hff := hf _ (gpAt_mem hlt)
        have HT : Hid (gpsL (l.take (k + 1)) = gpsL (l.take k) + (gpAt l k).e.l.length) := by show _ = _; rw [gp_take hlt, gpsL_snoc]
        clear hc hnc hcm
        go_wp2_with fail
        refine (szGroup_len (gpAt l k).e _ n _ hin hff hn0 (by omega)).mono ?_
        rintro x w3 ⟨⟨m, rfl, hm⟩, hb3⟩
        have hB3 := hB.trans (hb3.mono hB.size)
        clear hb3 hB c0 c1 c2 c3 hin hff
        rcases hm with hm | ⟨hm0, hm1, hms⟩
        · go_wp2_with fail
          go_ret
          exact ⟨⟨_, rfl, .inl (by omega)⟩, hB3⟩
        · have HMS : Hid _ := hms
          have HN2 : Hid (m + (l.length : Int) + (gpsL (l.take (k + 1)) : Int) ≤ left) := by
            show _ ≤ _
            have q1 := HN.out
            have q2 := HT.out
            omega
          clear hms HT HN
          go_wp2_with fail
          go_roundw
          case rel => exact ⟨k + 1, m, hlt, by go_num, rfl, hm0, HN2, by omega, fun j hj => by
            by_cases e : j = k
            · rw [e]; exact HMS.out
            · exact HSM.out j (by omega), hB3⟩
          case measure => simp [intOf]; omega
      · obtain rfl : k = l.length := by omega
        have HN2 : Hid (n + (l.length : Int) + (gpsL l : Int) ≤ left) := by show _ ≤ _; have := HN.out; rwa [List.take_length] at this
        clear HN
        go_wp2_with fail
        go_ret
        refine ⟨⟨n, rfl, .inr ⟨hn0, HN2.out, HLEN.out, fun x hx => ?_⟩⟩, hB⟩
        obtain ⟨j, hj, rfl⟩ := List.getElem_of_mem hx
        have := HSM.out j hj
        rwa [gpAt_get hj] at this
end Go.Proofs.Ytbkllceceaedpaa
/- How much a purse lets a stream hold in all. -/
namespace Go.Proofs.Ytbkllceceaedpaa
open Go.RowKit
set_option linter.unusedVariables false

/-- what marks a stream needs -/
structure StRoom (li : List ItRow) (lg : List GpRow) : Prop where
  small : StSmall li lg
  room : li.length + itsL li + lg.length + gpsL lg ≤ 1048576
theorem stRoom_marks {li : List ItRow} {lg : List GpRow} (h : StRoom li lg) : 1 + itsN li ≤ 6000000 ∧ 1 + itsN li + gpsN lg ≤ 8000000 := by
  have := h.room
  rw [itsN_L, gpsN_L]
  omega
set_option maxHeartbeats 2000000 in
theorem szStream_len (t n : Int) (vi vg : Value) (li : List ItRow) (lg : List GpRow) (w : World) (hr : StReads w vi vg li lg) (hf : StFit li lg) :
    Calls Try.prog 8 #[stV t n vi vg, .int .i64 1048576] w fun e w' => (∃ m : Int, e = .returned (.int .i64 m) ∧ (m < 0 ∨ 0 ≤ m ∧ m ≤ 1048576 ∧ StRoom li lg)) ∧ Below w.heap.size w w' := by
  obtain ⟨ai, ci, rfl⟩ := readsR_shape hr.i.rows
  obtain ⟨ag, cg, rfl⟩ := readsR_shape hr.g.rows
  have hB : Below w.heap.size w (w.alloc (.cells #[.int .i64 t, .int .i64 n, .slice ai li.length ci, .slice ag lg.length cg] 27)) := (Below.refl _ w).alloc (Nat.le_refl _) _
  have Q0 : Hid _ := heap_alloc_new w (.cells #[.int .i64 t, .int .i64 n, .slice ai li.length ci, .slice ag lg.length cg] 27)
  go_enter Try.func8, Try.ntmps8
  go_wp2_with fail
  refine (szItemS_len _ li 1048576 _ (its_kept hr.i hB) hf.i hf.il (by omega) (by omega)).mono ?_
  rintro e w1 ⟨⟨m, rfl, hm⟩, hb1⟩
  have hB1 := hB.trans (hb1.mono hB.size)
  have q1 := (hb1.block w.heap.size (by simp)).trans Q0.out
  have c3 : w1.cell? ⟨w.heap.size, 3, none⟩ = some (.slice ag lg.length cg) := cellAt_row q1 3
  clear hb1 hB q1 Q0
  rcases hm with hm | ⟨hm0, hm1, hms⟩
  · go_wp2_with fail
    go_ret
    exact ⟨⟨_, rfl, .inl (by omega)⟩, hB1⟩
  · have HM : Hid _ := hms
    have HMM : Hid (m + (li.length : Int) + (itsL li : Int) ≤ 1048576) := hm1
    clear hms hm1
    have hm1 : m ≤ 1048576 := by have := HMM.out; omega
    go_wp2_with fail
    refine (szGroupS_len _ lg m _ (gps_kept hr.g hB1) hf.g hf.gl hm0 (by omega)).mono ?_
    rintro e w2 ⟨⟨m2, rfl, hm2⟩, hb2⟩
    have hB2 := hB1.trans (hb2.mono hB1.size)
    clear hb2 hB1 c3
    rcases hm2 with hm2 | ⟨hm20, hm21, hms2⟩
    · go_wp2_with fail
      go_ret
      exact ⟨⟨_, rfl, .inl (by omega)⟩, hB2⟩
    · have HM2 : Hid _ := hms2
      have HMM2 : Hid (m2 + (lg.length : Int) + (gpsL lg : Int) ≤ m) := hm21
      clear hms2 hm21
      go_wp2_with fail
      go_ret
      exact ⟨⟨_, rfl, .inr ⟨hm20, by have := HMM2.out; omega, ⟨⟨HM.out, HM2.out⟩, by have h1 := HMM.out; have h2 := HMM2.out; omega⟩⟩⟩, hB2⟩
end Go.Proofs.Ytbkllceceaedpaa
