/- Rows of groups: how much is left of a purse behind them; a copy in new memory; rows that are the same. -/
import Derived.Test.YtbkllceceaedpaaGpA
import Derived.Deep.RegionHeld3
namespace Go.Proofs.Ytbkllceceaedpaa
open Go.RowKit
set_option linter.unusedVariables false

/-- one, and where its list is -/
structure GpRow where
  e : GpE
  a : Option Addr
  c : Nat
def GpRow.v (x : GpRow) : Value := .slice x.a x.e.l.length x.c
def gpC (x : GpRow) : List Value := [.string x.e.name, .int .i64 x.e.t, .int .i64 x.e.n, .slice x.a x.e.l.length x.c]
def gpZ : GpRow := ⟨⟨ByteArray.empty, 0, 0, []⟩, none, 0⟩
theorem gpC_len (x : GpRow) : (gpC x).length = 4 := rfl
theorem gpC_one (x : GpRow) : ∀ u ∈ gpC x, u.oneCell' = true := by
  intro u hu
  unfold gpC at hu
  simp only [List.mem_cons, List.not_mem_nil, or_false] at hu
  rcases hu with rfl | rfl | rfl | rfl <;> rfl
def gpAt (l : List GpRow) (k : Nat) : GpRow := l.getD k gpZ
theorem gpAt_some {l : List GpRow} {k : Nat} (h : k < l.length) : l[k]? = some (gpAt l k) := by
  unfold gpAt; rw [List.getD_eq_getElem?_getD, List.getElem?_eq_getElem h]; rfl
theorem gpAt_get {l : List GpRow} {k : Nat} (h : k < l.length) : gpAt l k = l[k] := by
  have := gpAt_some h; rw [List.getElem?_eq_getElem h] at this; exact (Option.some.inj this).symm
theorem gpAt_mem {l : List GpRow} {k : Nat} (h : k < l.length) : gpAt l k ∈ l := by rw [gpAt_get h]; exact List.getElem_mem h
def GpIn (w : World) (x : GpRow) : Prop := WtReads w x.v x.e.l
theorem gpIn_kept {w w' : World} {x : GpRow} (h : GpIn w x) (hb : Below w.heap.size w w') : GpIn w' x := readsR_kept h hb
structure GpsReads (w : World) (v : Value) (l : List GpRow) : Prop where
  rows : ReadsR gpC 4 w v l
  ins : ∀ x ∈ l, GpIn w x
theorem gps_kept {w w' : World} {v : Value} {l : List GpRow} (h : GpsReads w v l) (hb : Below w.heap.size w w') : GpsReads w' v l :=
  ⟨readsR_kept h.rows hb, fun x hx => gpIn_kept (h.ins x hx) hb⟩
structure GpsSmall (l : List GpRow) : Prop where
  len : l.length ≤ 1048576
  each : ∀ x ∈ l, GpSmall x.e
theorem gp_some {w : World} {ao : Option Addr} {cap : Nat} {l : List GpRow} (h : ReadsR gpC 4 w (.slice ao l.length cap) l) (h0 : 0 < l.length) :
    ∃ b off, ao = some ⟨b, off, none⟩ ∧ b < w.heap.size ∧ l.length ≤ cap ∧ cap ≤ maxLen ∧ ∀ k x, l[k]? = some x → w.rangeAt b (off + k * 4) (gpC x) := by
  rcases h with ⟨rfl, _⟩ | ⟨_, b, off, cap', hv, hb, hnc, hcm, hc⟩
  · simp at h0
  · simp only [Value.slice.injEq, true_and] at hv
    obtain ⟨h1, rfl⟩ := hv
    exact ⟨b, off, h1, hb, hnc, hcm, hc⟩
abbrev gpCells (w : World) (b o : Nat) (x : GpRow) : Prop := w.cell? ⟨b, o, none⟩ = some (.string x.e.name) ∧ w.cell? ⟨b, o + 1, none⟩ = some (.int .i64 x.e.t) ∧ w.cell? ⟨b, o + 2, none⟩ = some (.int .i64 x.e.n) ∧ w.cell? ⟨b, o + 3, none⟩ = some (.slice x.a x.e.l.length x.c)
theorem gp_cells {w w' : World} {b off : Nat} {l : List GpRow} (hc : ∀ k x, l[k]? = some x → w.rangeAt b (off + k * 4) (gpC x)) (hB : Below w.heap.size w w') (hb : b < w.heap.size) {k : Nat} (h : k < l.length) :
    gpCells w' b (off + k * 4) (gpAt l k) := by
  have hr := hc k _ (gpAt_some h)
  have g : ∀ o v, (gpC (gpAt l k))[o]? = some v → w'.cell? ⟨b, off + k * 4 + o, none⟩ = some v := fun o v hv => (hB.cell (p := ⟨b, off + k * 4 + o, none⟩) hb).trans (hr o v hv)
  exact ⟨g 0 _ rfl, g 1 _ rfl, g 2 _ rfl, g 3 _ rfl⟩

set_option maxHeartbeats 4000000 in
theorem szGroupS_any (v : Value) (l : List GpRow) (left : Int) (w : World) (hr : GpsReads w v l) (hf : ∀ x ∈ l, GpFit x.e) (hlen : l.length ≤ maxLen) (hl : 0 ≤ left) (hl2 : left ≤ 1048576) :
    Calls Try.prog 31 #[v, .int .i64 left] w fun x w' => (∃ n : Int, x = .returned (.int .i64 n) ∧ (n < 0 ∨ 0 ≤ n ∧ n ≤ left ∧ GpsSmall l)) ∧ Below w.heap.size w w' := by
  obtain ⟨ao, cap, rfl⟩ := readsR_shape hr.rows
  unfold maxLen at hlen
  rcases Int.lt_or_le (left - (l.length : Int)) 0 with h1 | h1
  · go_enter Try.func31, Try.ntmps31
    go_wp2_with fail
    go_ret
    exact ⟨⟨_, rfl, .inl (by omega)⟩, Below.refl _ _⟩
  · have HLEN : Hid (l.length ≤ 1048576) := by show _ ≤ _; omega
    go_enter Try.func31, Try.ntmps31
    go_wp2_with fail
    go_loopw [1, 5] (fun c i wr => ∃ (k : Nat) (n : Int), k ≤ l.length ∧ i = .int .i64 k ∧ c = .int .i64 n ∧ 0 ≤ n ∧ n ≤ left ∧ (∀ j, j < k → GpSmall (gpAt l j).e) ∧ Below w.heap.size w wr) (fun _ i _ => l.length - (intOf i).toNat)
    case atStart => exact ⟨0, _, Nat.zero_le _, rfl, rfl, h1, by omega, fun j hj => by omega, Below.refl _ _⟩
    case round =>
      obtain ⟨k, n, hk, rfl, rfl, hn0, hn1, hsm, hB⟩ := hrel
      have HSM : Hid (∀ j, j < k → GpSmall (gpAt l j).e) := hsm
      clear hsm
      by_cases hlt : k < l.length
      · obtain ⟨b, off, rfl, hb, hnc, hcm, hc⟩ := gp_some hr.rows (by omega)
        obtain ⟨c0, c1, c2, c3⟩ := gp_cells hc hB hb hlt
        have hk1 : (k : Int) < (l.length : Int) := by omega
        have hin := gpIn_kept (hr.ins _ (gpAt_mem hlt)) hB
        have hff := hf _ (gpAt_mem hlt)
        clear hc hnc hcm
        go_wp2_with fail
        refine (szGroup_any (gpAt l k).e _ n _ hin hff hn0 (by omega)).mono ?_
        rintro x w3 ⟨⟨m, rfl, hm⟩, hb3⟩
        have hB3 := hB.trans (hb3.mono hB.size)
        clear hb3 hB c0 c1 c2 c3 hin hff
        rcases hm with hm | ⟨hm0, hm1, hms⟩
        · go_wp2_with fail
          go_ret
          exact ⟨⟨_, rfl, .inl (by omega)⟩, hB3⟩
        · have HMS : Hid _ := hms
          clear hms
          go_wp2_with fail
          go_roundw
          case rel => exact ⟨k + 1, m, hlt, by go_num, rfl, hm0, by omega, fun j hj => by
            by_cases e : j = k
            · rw [e]; exact HMS.out
            · exact HSM.out j (by omega), hB3⟩
          case measure => simp [intOf]; omega
      · obtain rfl : k = l.length := by omega
        go_wp2_with fail
        go_ret
        refine ⟨⟨n, rfl, .inr ⟨hn0, hn1, HLEN.out, fun x hx => ?_⟩⟩, hB⟩
        obtain ⟨j, hj, rfl⟩ := List.getElem_of_mem hx
        have := HSM.out j hj
        rwa [gpAt_get hj] at this

/-! ### copies: each list in a stretch of its own, one behind the other -/
def gpOwn1 (w : World) (lo hi : Nat) (x : GpRow) : Prop := WtOwn w lo hi x.v x.e.l ∧ lo ≤ hi
abbrev GpsOwn (w : World) (lo hi : Nat) (l : List GpRow) : Prop := Chain (gpOwn1 w) lo hi l
theorem gpsOwn_kept {w w' : World} {lo hi : Nat} {l : List GpRow} (h : GpsOwn w lo hi l) (hb : Below w.heap.size w w') : GpsOwn w' lo hi l :=
  chain_map (B := 0) (fun _ _ _ _ h => ⟨ownR_kept h.1 hb, h.2⟩) (Nat.zero_le _) h
theorem gpsOwn_set {w : World} {lo hi : Nat} {l : List GpRow} (h : GpsOwn w lo hi l) (a : Addr) (u : Value) (ha : a.block < lo) : GpsOwn (w.setCell a u) lo hi l :=
  chain_map (B := lo) (fun _ _ _ hb h => ⟨ownR_set h.1 a u (Nat.lt_of_lt_of_le ha hb), h.2⟩) (Nat.le_refl _) h
theorem gpsOwn_snoc {w : World} {l : List GpRow} {lo mid hi : Nat} {x : GpRow} (h : GpsOwn w lo mid l) (hx : WtOwn w mid hi x.v x.e.l) (hm : mid ≤ hi) : GpsOwn w lo hi (l ++ [x]) :=
  chain_snoc (fun _ _ _ _ h1 h => ⟨ownR_lower h.1 h1 (Nat.le_refl _), Nat.le_trans h1 h.2⟩) h ⟨hx, hm⟩ hm
theorem gpsOwn_ins {w : World} {l : List GpRow} {lo hi : Nat} (h : GpsOwn w lo hi l) : ∀ x ∈ l, GpIn w x :=
  chain_mem (R := fun x => GpIn w x) (fun _ _ _ h => ownR_reads wtC_len h.1) h
abbrev GpsOwns (w : World) (base : Nat) (v : Value) (l : List GpRow) : Prop := OwnsR gpC 4 65 w base v l
/-- a slice of them, and their lists, in stretches of their own -/
def GpFor (w : World) (lo hi : Nat) (v : Value) (l : List GpRow) : Prop := ∃ m, lo ≤ m ∧ m ≤ hi ∧ OwnR gpC 4 65 w lo m v l ∧ GpsOwn w m hi l
theorem gpFor_reads {w : World} {lo hi : Nat} {v : Value} {l : List GpRow} (h : GpFor w lo hi v l) : GpsReads w v l := by
  obtain ⟨m, _, _, h3, h4⟩ := h
  exact ⟨ownR_reads gpC_len h3, gpsOwn_ins h4⟩
theorem gpFor_kept {w w' : World} {lo hi : Nat} {v : Value} {l : List GpRow} (h : GpFor w lo hi v l) (hb : Below w.heap.size w w') : GpFor w' lo hi v l := by
  obtain ⟨m, h1, h2, h3, h4⟩ := h
  exact ⟨m, h1, h2, ownR_kept h3 hb, gpsOwn_kept h4 hb⟩
theorem gpFor_set {w : World} {lo hi : Nat} {v : Value} {l : List GpRow} (h : GpFor w lo hi v l) (a : Addr) (u : Value) (ha : a.block < lo) : GpFor (w.setCell a u) lo hi v l := by
  obtain ⟨m, h1, h2, h3, h4⟩ := h
  exact ⟨m, h1, h2, ownR_set h3 a u ha, gpsOwn_set h4 a u (by omega)⟩
theorem gpFor_lower {w : World} {lo lo' hi hi' : Nat} {v : Value} {l : List GpRow} (h : GpFor w lo hi v l) (hl : lo' ≤ lo) (hh : hi ≤ hi') : GpFor w lo' hi' v l := by
  obtain ⟨m, h1, h2, h3, h4⟩ := h
  exact ⟨m, by omega, by omega, ⟨ownsR_base h3.1 hl, h3.2⟩, chain_top hh h4⟩
theorem gpInfo : (Try.prog.info? 65).map (fun i => (i.zero, i.size, i.bytes)) = some (some (.agg #[.string ByteArray.empty, .int .i64 0, .int .i64 0, .slice none 0 0]), 4, 56) := by kernel_rfl
theorem gp_get {l ys : List GpRow} {k : Nat} (h : ys.map GpRow.e = (l.take k).map GpRow.e) (hk : k < l.length) (x : GpRow) (hx : x.e = (gpAt l k).e) : (ys ++ [x]).map GpRow.e = (l.take (k + 1)).map GpRow.e := by
  rw [List.map_append, h, List.take_succ_eq_append_getElem hk, List.map_append]
  simp only [List.map_cons, List.map_nil]
  rw [hx, gpAt_get hk]

set_option maxHeartbeats 8000000 in
theorem toGroupS_any (v : Value) (l : List GpRow) (w : World) (hr : GpsReads w v l) (hs : GpsSmall l) :
    Calls Try.prog 37 #[v] w fun x w' => (∃ v' ys, x = .returned v' ∧ ys.map GpRow.e = l.map GpRow.e ∧ GpFor w' w.heap.size w'.heap.size v' ys) ∧ Below w.heap.size w w' := by
  obtain ⟨i0, hi, hz0, hz1, hz2⟩ := info_parts gpInfo
  have hlen := hs.len
  have hbt : i0.bytes * l.length ≤ 281474976710656 := by rw [hz2]; omega
  have hml : l.length ≤ maxLen := by unfold maxLen; omega
  obtain ⟨ao, cap, rfl⟩ := readsR_shape hr.rows
  go_enter Try.func37, Try.ntmps37
  go_wp2_with (at_make; refine wpList_make_full _ rfl _ _ 32 rfl w.heap.size 65 i0 _ 4 Try.underlying32 hi hz0 hz1 _ _ _ _ l.length rfl rfl rfl rfl hbt hml (Nat.le_refl _) ?_)
  intro w1 hown hgrow
  have hB1 : Below w.heap.size w w1 := (Below.refl _ _).grown hgrow (Nat.le_refl _) (fun k hk => by cases hk)
  have hown1 : GpsOwns w1 w.heap.size (.slice (some ⟨w.heap.size, 0, none⟩) l.length l.length) (partOf gpZ l.length []) := by
    unfold GpsOwns OwnsR; rw [partOf_none, List.length_replicate, ← made_rows gpC_len gpZ l.length]; exact hown
  have hz1 : w.heap.size + 1 ≤ w1.heap.size := (World.ownsRow.lt hown1 w.heap.size rfl).2
  clear hown hgrow hbt hml hi hz0 hz1 hz2
  go_wp2_with fail
  go_loopw [4] (fun i wr => ∃ ys : List GpRow, ys.length ≤ l.length ∧ i = .int .i64 (ys.length : Int) ∧ ys.map GpRow.e = (l.take ys.length).map GpRow.e ∧ Hid (GpsOwns wr w.heap.size (.slice (some ⟨w.heap.size, 0, none⟩) l.length l.length) (partOf gpZ l.length ys)) ∧ GpsOwn wr (w.heap.size + 1) wr.heap.size ys ∧ w.heap.size + 1 ≤ wr.heap.size ∧ Below w.heap.size w wr) (fun i _ => l.length - (intOf i).toNat)
  case atStart => exact ⟨[], Nat.zero_le _, rfl, rfl, hown1, (World.ownsRow.lt hown1 w.heap.size rfl).2, (World.ownsRow.lt hown1 w.heap.size rfl).2, hB1⟩
  case round =>
    obtain ⟨ys, hk, rfl, hmap, HOW, hin, hzr, hB⟩ := hrel
    have HMAP : Hid (ys.map GpRow.e = (l.take ys.length).map GpRow.e) := hmap
    clear hown1 hB1 hmap
    by_cases hlt : ys.length < l.length
    · obtain ⟨b, off, rfl, hb, hnc, hcm, hc⟩ := gp_some hr.rows (by omega)
      obtain ⟨c0, c1, c2, c3⟩ := gp_cells hc hB hb hlt
      have hk1 : (ys.length : Int) < (l.length : Int) := by omega
      have hin1 := gpIn_kept (hr.ins _ (gpAt_mem hlt)) hB
      have hss := (hs.each _ (gpAt_mem hlt)).len
      have HL : Hid ((partOf gpZ l.length ys).length = l.length) := partOf_len hk
      have HAT : Hid ((partOf gpZ l.length ys)[ys.length]? = some gpZ) := partOf_at hlt
      clear hc hnc hcm
      go_wp2_with fail
      refine (toGroup_any (gpAt l ys.length).e _ _ hin1 hss).mono ?_
      rintro x w3 ⟨⟨u, rfl, hon⟩, hb3⟩
      have hB3 : Below w.heap.size w w3 := hB.trans (hb3.mono hB.size)
      obtain ⟨au, cu, rfl⟩ := readsR_shape (ownR_reads wtC_len hon)
      have hin3 := gpsOwn_snoc (x := GpRow.mk (gpAt l ys.length).e au cu) (gpsOwn_kept hin hb3) hon hb3.size
      have ho3 : GpsOwns w3 w.heap.size (.slice (some ⟨w.heap.size, 0, none⟩) (partOf gpZ l.length ys).length l.length) (partOf gpZ l.length ys) := by rw [HL.out]; exact ownsR_kept HOW.out hb3
      have hst := rows_stored gpC_len ho3 ys.length gpZ (GpRow.mk (gpAt l ys.length).e au cu) HAT.out
      rw [partOf_set hlt, HL.out] at hst
      have f0 := World.ownsRow.frozenAt ho3 (ys.length * 4)
      have f1 := World.ownsRow.frozenAt ho3 (ys.length * 4 + 1)
      have f2 := World.ownsRow.frozenAt ho3 (ys.length * 4 + 2)
      have f3 := World.ownsRow.frozenAt ho3 (ys.length * 4 + 3)
      have d0 : w3.cell? ⟨w.heap.size, ys.length * 4, none⟩ = some (.string ByteArray.empty) := cellR gpC_len ho3 HAT.out 0 _ rfl
      have d1 : w3.cell? ⟨w.heap.size, ys.length * 4 + 1, none⟩ = some (.int .i64 0) := cellR gpC_len ho3 HAT.out 1 _ rfl
      have d2 : w3.cell? ⟨w.heap.size, ys.length * 4 + 2, none⟩ = some (.int .i64 0) := cellR gpC_len ho3 HAT.out 2 _ rfl
      have d3 : w3.cell? ⟨w.heap.size, ys.length * 4 + 3, none⟩ = some (.slice none 0 0) := cellR gpC_len ho3 HAT.out 3 _ rfl
      have HO : Hid _ := hst
      have HIN : Hid _ := hin3
      have hz3 : w.heap.size + 1 ≤ w3.heap.size := Nat.le_trans hzr hb3.size
      clear hb3 hB HOW ho3 hst hin hin3 hon hin1 hss c0 c1 c2
      clear c3
      go_wp2_with fail
      go_roundw
      case rel =>
        refine ⟨ys ++ [GpRow.mk (gpAt l ys.length).e au cu], by simp; omega, by simp, by rw [List.length_append]; exact gp_get HMAP.out hlt _ rfl, HO.out, ?_, ?_, ?_⟩
        · have q := gpsOwn_set (gpsOwn_set (gpsOwn_set (gpsOwn_set HIN.out ⟨w.heap.size, ys.length * 4, none⟩ (.string (gpAt l ys.length).e.name) (by show w.heap.size < _; omega)) ⟨w.heap.size, ys.length * 4 + 1, none⟩ (.int .i64 (gpAt l ys.length).e.t) (by show w.heap.size < _; omega)) ⟨w.heap.size, ys.length * 4 + 2, none⟩ (.int .i64 (gpAt l ys.length).e.n) (by show w.heap.size < _; omega)) ⟨w.heap.size, ys.length * 4 + 3, none⟩ (.slice au (gpAt l ys.length).e.l.length cu) (by show w.heap.size < _; omega)
          simp only [set_size] at q ⊢
          exact q
        · simp only [set_size]; exact hz3
        · exact (((hB3.setCell (Nat.le_refl _) _).setCell (Nat.le_refl _) _).setCell (Nat.le_refl _) _).setCell (Nat.le_refl _) _
      case measure => simp [intOf]; omega
    · have e : ys.length = l.length := by omega
      have ho := HOW.out
      rw [partOf_all e] at ho
      have hmap := HMAP.out
      rw [e, List.take_length] at hmap
      have HM : Hid _ := hmap
      have HO : Hid _ := ho
      have hk1 : ¬ (ys.length : Int) < (l.length : Int) := by omega
      clear HMAP hmap ho HOW
      go_wp2_with fail
      go_ret
      have hlt3 : ∀ k, (Value.slice (some ⟨w.heap.size, 0, none⟩) l.length l.length).ownBlock = some k → k < w.heap.size + 1 := fun k hk => by
        have : w.heap.size = k := by simpa [Value.ownBlock] using hk
        omega
      exact ⟨⟨_, rfl, ys, HM.out, w.heap.size + 1, by omega, hzr, ⟨HO.out, hlt3⟩, hin⟩, hB⟩
end Go.Proofs.Ytbkllceceaedpaa
