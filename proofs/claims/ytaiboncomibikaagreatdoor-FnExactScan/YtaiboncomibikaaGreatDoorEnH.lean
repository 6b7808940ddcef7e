/- Rows of entries: how much is left of a purse behind them; a copy in new memory. -/
import Derived.Test.YtaiboncomibikaaGreatDoorEnA
import Derived.Deep.RegionHeld3
namespace Go.Proofs.YtaiboncomibikaaGreatDoor
open Go.RowKit
set_option linter.unusedVariables false

/-- an entry, and where its lists are -/
structure Row where
  e : Ent
  al : Option Addr
  cl : Nat
  as_ : Option Addr
  cs : Nat
  af : Option Addr
  cf : Nat
def Row.vl (x : Row) : Value := .slice x.al x.e.list.length x.cl
def Row.vs (x : Row) : Value := .slice x.as_ x.e.scores.length x.cs
def Row.vf (x : Row) : Value := .slice x.af x.e.fields.length x.cf
def rowC (x : Row) : List Value := [.string x.e.key, .int .i64 x.e.til, .int .i64 x.e.kind, .string x.e.text, .slice x.al x.e.list.length x.cl, .slice x.as_ x.e.scores.length x.cs, .slice x.af x.e.fields.length x.cf]
def rowZ : Row := ⟨⟨ByteArray.empty, 0, 0, ByteArray.empty, [], [], []⟩, none, 0, none, 0, none, 0⟩
theorem rowC_len (x : Row) : (rowC x).length = 7 := rfl
theorem rowC_one (x : Row) : ∀ u ∈ rowC x, u.oneCell' = true := by
  intro u hu
  unfold rowC at hu
  simp only [List.mem_cons, List.not_mem_nil, or_false] at hu
  rcases hu with rfl | rfl | rfl | rfl | rfl | rfl | rfl <;> rfl
def esAt (l : List Row) (k : Nat) : Row := l.getD k rowZ
theorem esAt_some {l : List Row} {k : Nat} (h : k < l.length) : l[k]? = some (esAt l k) := by
  unfold esAt; rw [List.getD_eq_getElem?_getD, List.getElem?_eq_getElem h]; rfl
theorem esAt_get {l : List Row} {k : Nat} (h : k < l.length) : esAt l k = l[k] := by
  have := esAt_some h; rw [List.getElem?_eq_getElem h] at this; exact (Option.some.inj this).symm
theorem esAt_mem {l : List Row} {k : Nat} (h : k < l.length) : esAt l k ∈ l := by rw [esAt_get h]; exact List.getElem_mem h

/-- what one row's lists lead to -/
def RowIn (w : World) (x : Row) : Prop := EnReads w x.vl x.vs x.vf x.e
theorem rowIn_kept {w w' : World} {x : Row} (h : RowIn w x) (hb : Below w.heap.size w w') : RowIn w' x := enReads_kept h hb
structure EsReads (w : World) (v : Value) (l : List Row) : Prop where
  rows : ReadsR rowC 7 w v l
  ins : ∀ x ∈ l, RowIn w x
theorem esReads_kept {w w' : World} {v : Value} {l : List Row} (h : EsReads w v l) (hb : Below w.heap.size w w') : EsReads w' v l :=
  ⟨readsR_kept h.rows hb, fun x hx => rowIn_kept (h.ins x hx) hb⟩
structure EsSmall (l : List Row) : Prop where
  len : l.length ≤ 1048576
  each : ∀ x ∈ l, EnSmall x.e
theorem es_some {w : World} {ao : Option Addr} {cap : Nat} {l : List Row} (h : ReadsR rowC 7 w (.slice ao l.length cap) l) (h0 : 0 < l.length) :
    ∃ b off, ao = some ⟨b, off, none⟩ ∧ b < w.heap.size ∧ l.length ≤ cap ∧ cap ≤ maxLen ∧ ∀ k x, l[k]? = some x → w.rangeAt b (off + k * 7) (rowC x) := by
  rcases h with ⟨rfl, _⟩ | ⟨_, b, off, cap', hv, hb, hnc, hcm, hc⟩
  · simp at h0
  · simp only [Value.slice.injEq, true_and] at hv
    obtain ⟨h1, rfl⟩ := hv
    exact ⟨b, off, h1, hb, hnc, hcm, hc⟩
/-- the seven cells of a row -/
theorem es_cells {w w' : World} {b off : Nat} {l : List Row} (hc : ∀ k x, l[k]? = some x → w.rangeAt b (off + k * 7) (rowC x)) (hB : Below w.heap.size w w') (hb : b < w.heap.size) {k : Nat} (h : k < l.length) :
    w'.cell? ⟨b, off + k * 7, none⟩ = some (.string (esAt l k).e.key) ∧ w'.cell? ⟨b, off + k * 7 + 1, none⟩ = some (.int .i64 (esAt l k).e.til) ∧ w'.cell? ⟨b, off + k * 7 + 2, none⟩ = some (.int .i64 (esAt l k).e.kind) ∧ w'.cell? ⟨b, off + k * 7 + 3, none⟩ = some (.string (esAt l k).e.text) ∧
    w'.cell? ⟨b, off + k * 7 + 4, none⟩ = some (.slice (esAt l k).al (esAt l k).e.list.length (esAt l k).cl) ∧ w'.cell? ⟨b, off + k * 7 + 5, none⟩ = some (.slice (esAt l k).as_ (esAt l k).e.scores.length (esAt l k).cs) ∧ w'.cell? ⟨b, off + k * 7 + 6, none⟩ = some (.slice (esAt l k).af (esAt l k).e.fields.length (esAt l k).cf) := by
  have hr := hc k _ (esAt_some h)
  have g : ∀ o v, (rowC (esAt l k))[o]? = some v → w'.cell? ⟨b, off + k * 7 + o, none⟩ = some v := fun o v hv => (hB.cell (p := ⟨b, off + k * 7 + o, none⟩) hb).trans (hr o v hv)
  exact ⟨g 0 _ rfl, g 1 _ rfl, g 2 _ rfl, g 3 _ rfl, g 4 _ rfl, g 5 _ rfl, g 6 _ rfl⟩

set_option maxHeartbeats 4000000 in
theorem szEntryS_any (v : Value) (l : List Row) (left : Int) (w : World) (hr : EsReads w v l) (hf : ∀ x ∈ l, EnFit x.e) (hlen : l.length ≤ maxLen) (hl : 0 ≤ left) (hl2 : left ≤ 1048576) :
    Calls Tryz.prog 13 #[v, .int .i64 left] w fun x w' => (∃ n : Int, x = .returned (.int .i64 n) ∧ (n < 0 ∨ 0 ≤ n ∧ n ≤ left ∧ EsSmall l)) ∧ Below w.heap.size w w' := by
  obtain ⟨ao, cap, rfl⟩ := readsR_shape hr.rows
  unfold maxLen at hlen
  rcases Int.lt_or_le (left - (l.length : Int)) 0 with h1 | h1
  · go_enter Tryz.func13, Tryz.ntmps13
    go_wp2_with fail
    go_ret
    exact ⟨⟨_, rfl, .inl (by omega)⟩, Below.refl _ _⟩
  · have HLEN : Hid (l.length ≤ 1048576) := by show _ ≤ _; omega
    go_enter Tryz.func13, Tryz.ntmps13
    go_wp2_with fail
    go_loopw [1, 5] (fun c i wr => ∃ (k : Nat) (n : Int), k ≤ l.length ∧ i = .int .i64 k ∧ c = .int .i64 n ∧ 0 ≤ n ∧ n ≤ left ∧ (∀ j, j < k → EnSmall (esAt l j).e) ∧ Below w.heap.size w wr) (fun _ i _ => l.length - (intOf i).toNat)
    case atStart => exact ⟨0, _, Nat.zero_le _, rfl, rfl, h1, by omega, fun j hj => by omega, Below.refl _ _⟩
    case round =>
      obtain ⟨k, n, hk, rfl, rfl, hn0, hn1, hsm, hB⟩ := hrel
      have HSM : Hid (∀ j, j < k → EnSmall (esAt l j).e) := hsm
      clear hsm
      by_cases hlt : k < l.length
      · obtain ⟨b, off, rfl, hb, hnc, hcm, hc⟩ := es_some hr.rows (by omega)
        obtain ⟨c0, c1, c2, c3, c4, c5, c6⟩ := es_cells hc hB hb hlt
        have hk1 : (k : Int) < (l.length : Int) := by omega
        have hin := rowIn_kept (hr.ins _ (esAt_mem hlt)) hB
        have hff := hf _ (esAt_mem hlt)
        clear hc hnc hcm
        go_wp2_with fail
        refine (szEntry_any (esAt l k).e _ _ _ n _ hin hff hn0 (by omega)).mono ?_
        rintro x w3 ⟨⟨m, rfl, hm⟩, hb3⟩
        have hB3 := hB.trans (hb3.mono hB.size)
        clear hb3 hB c0 c1 c2 c3 c4 c5 c6 hin hff
        rcases hm with hm | ⟨hm0, hm1, hms⟩
        · go_wp2_with fail
          go_ret
          exact ⟨⟨_, rfl, .inl (by omega)⟩, hB3⟩
        · have HMS : Hid _ := hms
          clear hms
          go_wp2_with fail
          go_roundw
          case rel => exact ⟨k + 1, m, hlt, by go_num, rfl, hm0, by omega, fun j hj => by
            by_cases e : j = k
            · rw [e]; exact HMS.out
            · exact HSM.out j (by omega), hB3⟩
          case measure => simp [intOf]; omega
      · obtain rfl : k = l.length := by omega
        go_wp2_with fail
        go_ret
        refine ⟨⟨n, rfl, .inr ⟨hn0, hn1, HLEN.out, fun x hx => ?_⟩⟩, hB⟩
        obtain ⟨j, hj, rfl⟩ := List.getElem_of_mem hx
        have := HSM.out j hj
        rwa [esAt_get hj] at this

/-! ### copies: a row's lists each in stretches of their own, one row behind the other -/
def EnsOwn (w : World) : Nat → Nat → List Row → Prop
  | lo, hi, [] => lo ≤ hi
  | lo, hi, x :: l => ∃ m, lo ≤ m ∧ EnOwn w lo m x.vl x.vs x.vf x.e ∧ EnsOwn w m hi l
theorem enOwn_le {w : World} {lo hi : Nat} {vl vs vf : Value} {e : Ent} (h : EnOwn w lo hi vl vs vf e) : lo ≤ hi := by
  obtain ⟨a, b, h1, h2, h3, _⟩ := h; omega
theorem ensOwn_le : ∀ {l : List Row} {w : World} {lo hi : Nat}, EnsOwn w lo hi l → lo ≤ hi
  | [], _, _, _, h => h
  | x :: l, _, _, _, ⟨m, h1, _, h3⟩ => Nat.le_trans h1 (ensOwn_le h3)
theorem ensOwn_map {w w' : World} (P : Nat → Prop) (hP : ∀ {lo hi vl vs vf e}, P lo → EnOwn w lo hi vl vs vf e → EnOwn w' lo hi vl vs vf e) (hmono : ∀ {a b}, a ≤ b → P a → P b) :
    ∀ {l : List Row} {lo hi : Nat}, P lo → EnsOwn w lo hi l → EnsOwn w' lo hi l
  | [], _, _, _, h => h
  | x :: l, _, _, hp, ⟨m, h1, h2, h3⟩ => ⟨m, h1, hP hp h2, ensOwn_map P hP hmono (hmono h1 hp) h3⟩
theorem ensOwn_kept {w w' : World} {lo hi : Nat} {l : List Row} (h : EnsOwn w lo hi l) (hb : Below w.heap.size w w') : EnsOwn w' lo hi l :=
  ensOwn_map (fun _ => True) (fun _ h => enOwn_kept h hb) (fun _ _ => trivial) trivial h
theorem enOwn_cell {w : World} {lo hi : Nat} {vl vs vf : Value} {e : Ent} (h : EnOwn w lo hi vl vs vf e) (a : Addr) (u : Value) (ha : a.block < lo) : EnOwn (w.setCell a u) lo hi vl vs vf e := by
  obtain ⟨x, y, h1, h2, h3, h4, h5, h6⟩ := h
  exact ⟨x, y, h1, h2, h3, own_cell h4 a u ha, ownR_cell h5 a u (by omega), ownR_cell h6 a u (by omega)⟩
theorem ensOwn_cell {w : World} {lo hi : Nat} {l : List Row} (h : EnsOwn w lo hi l) (a : Addr) (u : Value) (ha : a.block < lo) : EnsOwn (w.setCell a u) lo hi l :=
  ensOwn_map (fun lo => a.block < lo) (fun hp h => enOwn_cell h a u hp) (fun hab h => Nat.lt_of_lt_of_le h hab) ha h
theorem ensOwn_snoc {w : World} : ∀ {l : List Row} {lo mid hi : Nat} {x : Row}, EnsOwn w lo mid l → EnOwn w mid hi x.vl x.vs x.vf x.e → EnsOwn w lo hi (l ++ [x])
  | [], lo, mid, hi, x, h, hx => by
    obtain ⟨a, b, h1, h2, h3, h4, h5, h6⟩ := hx
    have h' : lo ≤ mid := h
    exact ⟨hi, by omega, ⟨a, b, by omega, h2, h3, ⟨owns_base h4.1 h', h4.2⟩, h5, h6⟩, Nat.le_refl _⟩
  | y :: l, _, _, _, _, ⟨m, h1, h2, h3⟩, hx => ⟨m, h1, h2, ensOwn_snoc h3 hx⟩
theorem ensOwn_ins : ∀ {l : List Row} {w : World} {lo hi : Nat}, EnsOwn w lo hi l → ∀ x ∈ l, RowIn w x
  | [], _, _, _, _, _, hx => by cases hx
  | y :: l, _, _, _, ⟨m, _, h2, h3⟩, x, hx => by
    rcases List.mem_cons.1 hx with rfl | hx
    · exact enOwn_reads h2
    · exact ensOwn_ins h3 x hx

abbrev EsOwns (w : World) (base : Nat) (v : Value) (l : List Row) : Prop := OwnsR rowC 7 43 w base v l
theorem esInfo : (Tryz.prog.info? 43).map (fun i => (i.zero, i.size, i.bytes)) = some (some (.agg #[.string ByteArray.empty, .int .i64 0, .int .i64 0, .string ByteArray.empty, .slice none 0 0, .slice none 0 0, .slice none 0 0]), 7, 120) := by kernel_rfl
/-- the first rows are ys, the rest nothing -/
def esPart (n : Nat) (ys : List Row) : List Row := ys ++ List.replicate (n - ys.length) rowZ
theorem esPart_len {n : Nat} {ys : List Row} (h : ys.length ≤ n) : (esPart n ys).length = n := by simp [esPart]; omega
theorem esPart_at {n : Nat} {ys : List Row} (h : ys.length < n) : (esPart n ys)[ys.length]? = some rowZ := by
  unfold esPart; rw [List.getElem?_append_right (Nat.le_refl _), List.getElem?_replicate, if_pos (by omega)]
theorem esPart_set {n : Nat} {ys : List Row} {x : Row} (h : ys.length < n) : (esPart n ys).set ys.length x = esPart n (ys ++ [x]) := by
  unfold esPart
  have e : n - ys.length = (n - (ys ++ [x]).length) + 1 := by simp; omega
  rw [List.set_append_right _ _ (Nat.le_refl _), e, List.replicate_succ, Nat.sub_self, List.set_cons_zero, List.append_assoc]
  rfl
theorem flat_set7 : ∀ (l : List Row) (k : Nat) (x y : Row), l[k]? = some x → (((((((l.flatMap rowC).set (k * 7) (.string y.e.key)).set (k * 7 + 1) (.int .i64 y.e.til)).set (k * 7 + 2) (.int .i64 y.e.kind)).set (k * 7 + 3) (.string y.e.text)).set (k * 7 + 4) (.slice y.al y.e.list.length y.cl)).set (k * 7 + 5) (.slice y.as_ y.e.scores.length y.cs)).set (k * 7 + 6) (.slice y.af y.e.fields.length y.cf) = (l.set k y).flatMap rowC
  | [], k, x, y, h => by simp at h
  | z :: l, 0, x, y, h => by
    rw [List.flatMap_cons, List.set_cons_zero, List.flatMap_cons]; rfl
  | z :: l, k + 1, x, y, h => by
    have h' : l[k]? = some x := by simpa using h
    have g : ∀ (m : List Value) (o : Nat) (u : Value), (rowC z ++ m).set ((k + 1) * 7 + o) u = rowC z ++ m.set (k * 7 + o) u := by
      intro m o u
      rw [List.set_append_right _ _ (by rw [rowC_len]; omega), rowC_len, show (k + 1) * 7 + o - 7 = k * 7 + o by omega]
    have g0 : ∀ (m : List Value) (u : Value), (rowC z ++ m).set ((k + 1) * 7) u = rowC z ++ m.set (k * 7) u := fun m u => g m 0 u
    rw [List.flatMap_cons, g0, g, g, g, g, g, g, flat_set7 l k x y h', List.set_cons_succ, List.flatMap_cons]
theorem esStored {w : World} {base g cap : Nat} {l : List Row} (h : EsOwns w base (.slice (some ⟨g, 0, none⟩) l.length cap) l) (k : Nat) (x y : Row) (hk : l[k]? = some x) :
    EsOwns (((((((w.setCell ⟨g, k * 7, none⟩ (.string y.e.key)).setCell ⟨g, k * 7 + 1, none⟩ (.int .i64 y.e.til)).setCell ⟨g, k * 7 + 2, none⟩ (.int .i64 y.e.kind)).setCell ⟨g, k * 7 + 3, none⟩ (.string y.e.text)).setCell ⟨g, k * 7 + 4, none⟩ (.slice y.al y.e.list.length y.cl)).setCell ⟨g, k * 7 + 5, none⟩ (.slice y.as_ y.e.scores.length y.cs)).setCell ⟨g, k * 7 + 6, none⟩ (.slice y.af y.e.fields.length y.cf)) base (.slice (some ⟨g, 0, none⟩) l.length cap) (l.set k y) := by
  have h0 := (World.ownsRow.stored h (k * 7) (.string y.e.key)).1
  have h1 := (World.ownsRow.stored h0 (k * 7 + 1) (.int .i64 y.e.til)).1
  have h2 := (World.ownsRow.stored h1 (k * 7 + 2) (.int .i64 y.e.kind)).1
  have h3 := (World.ownsRow.stored h2 (k * 7 + 3) (.string y.e.text)).1
  have h4 := (World.ownsRow.stored h3 (k * 7 + 4) (.slice y.al y.e.list.length y.cl)).1
  have h5 := (World.ownsRow.stored h4 (k * 7 + 5) (.slice y.as_ y.e.scores.length y.cs)).1
  have h6 := (World.ownsRow.stored h5 (k * 7 + 6) (.slice y.af y.e.fields.length y.cf)).1
  unfold EsOwns OwnsR
  rw [List.length_set, ← flat_set7 l k x y hk]
  exact h6

/-- a slice of entries, and their lists, in stretches of their own -/
def EsFor (w : World) (lo hi : Nat) (v : Value) (l : List Row) : Prop := ∃ m, lo ≤ m ∧ m ≤ hi ∧ OwnR rowC 7 43 w lo m v l ∧ EnsOwn w m hi l
theorem esFor_reads {w : World} {lo hi : Nat} {v : Value} {l : List Row} (h : EsFor w lo hi v l) : EsReads w v l := by
  obtain ⟨m, _, _, h3, h4⟩ := h
  exact ⟨ownR_reads rowC_len h3, ensOwn_ins h4⟩
theorem esFor_kept {w w' : World} {lo hi : Nat} {v : Value} {l : List Row} (h : EsFor w lo hi v l) (hb : Below w.heap.size w w') : EsFor w' lo hi v l := by
  obtain ⟨m, h1, h2, h3, h4⟩ := h
  exact ⟨m, h1, h2, ownR_kept h3 hb, ensOwn_kept h4 hb⟩
theorem map_get {l ys : List Row} {k : Nat} (h : ys.map Row.e = (l.take k).map Row.e) (hk : k < l.length) (x : Row) (hx : x.e = (esAt l k).e) : (ys ++ [x]).map Row.e = (l.take (k + 1)).map Row.e := by
  rw [List.map_append, h, List.take_succ_eq_append_getElem hk, List.map_append]
  simp only [List.map_cons, List.map_nil]
  rw [hx, esAt_get hk]

set_option maxHeartbeats 8000000 in
theorem toEntryS_any (v : Value) (l : List Row) (w : World) (hr : EsReads w v l) (hs : EsSmall l) :
    Calls Tryz.prog 16 #[v] w fun x w' => (∃ v' ys, x = .returned v' ∧ ys.map Row.e = l.map Row.e ∧ EsFor w' w.heap.size w'.heap.size v' ys) ∧ Below w.heap.size w w' := by
  obtain ⟨i0, hi, hz0, hz1, hz2⟩ := info_parts esInfo
  have hlen := hs.len
  have hbt : i0.bytes * l.length ≤ 281474976710656 := by rw [hz2]; omega
  have hml : l.length ≤ maxLen := by unfold maxLen; omega
  obtain ⟨ao, cap, rfl⟩ := readsR_shape hr.rows
  go_enter Tryz.func16, Tryz.ntmps16
  go_wp2_with (at_make; refine wpList_make_full _ rfl _ _ 29 rfl w.heap.size 43 i0 _ 7 Tryz.underlying29 hi hz0 hz1 _ _ _ _ l.length rfl rfl rfl rfl hbt hml (Nat.le_refl _) ?_)
  intro w1 hown hgrow
  have hB1 : Below w.heap.size w w1 := (Below.refl _ _).grown hgrow (Nat.le_refl _) (fun k hk => by cases hk)
  have hown1 : EsOwns w1 w.heap.size (.slice (some ⟨w.heap.size, 0, none⟩) l.length l.length) (esPart l.length []) := by
    have e : esPart l.length [] = List.replicate l.length rowZ := by simp [esPart]
    unfold EsOwns OwnsR; rw [e, List.length_replicate, ← made_rows rowC_len rowZ l.length]; exact hown
  have hz1 : w.heap.size + 1 ≤ w1.heap.size := (World.ownsRow.lt hown1 w.heap.size rfl).2
  clear hown hgrow hbt hml hi hz0 hz1 hz2
  go_wp2_with fail
  go_loopw [4] (fun i wr => ∃ ys : List Row, ys.length ≤ l.length ∧ i = .int .i64 (ys.length : Int) ∧ ys.map Row.e = (l.take ys.length).map Row.e ∧ EsOwns wr w.heap.size (.slice (some ⟨w.heap.size, 0, none⟩) l.length l.length) (esPart l.length ys) ∧ EnsOwn wr (w.heap.size + 1) wr.heap.size ys ∧ w.heap.size + 1 ≤ wr.heap.size ∧ Below w.heap.size w wr) (fun i _ => l.length - (intOf i).toNat)
  case atStart => exact ⟨[], Nat.zero_le _, rfl, rfl, hown1, (World.ownsRow.lt hown1 w.heap.size rfl).2, (World.ownsRow.lt hown1 w.heap.size rfl).2, hB1⟩
  case round =>
    obtain ⟨ys, hk, rfl, hmap, ho, hin, hzr, hB⟩ := hrel
    have HMAP : Hid (ys.map Row.e = (l.take ys.length).map Row.e) := hmap
    clear hown1 hB1 hmap
    by_cases hlt : ys.length < l.length
    · obtain ⟨b, off, rfl, hb, hnc, hcm, hc⟩ := es_some hr.rows (by omega)
      obtain ⟨c0, c1, c2, c3, c4, c5, c6⟩ := es_cells hc hB hb hlt
      have hk1 : (ys.length : Int) < (l.length : Int) := by omega
      have hin1 := rowIn_kept (hr.ins _ (esAt_mem hlt)) hB
      have hss := hs.each _ (esAt_mem hlt)
      have HL : Hid ((esPart l.length ys).length = l.length) := esPart_len hk
      clear hc hnc hcm
      go_wp2_with fail
      refine (toEntry_any (esAt l ys.length).e _ _ _ _ hin1 hss).mono ?_
      rintro x w3 ⟨⟨ul, us, uf, rfl, hon⟩, hb3⟩
      have hB3 : Below w.heap.size w w3 := hB.trans (hb3.mono hB.size)
      obtain ⟨bl, dl, bs, ds, bf, df, rfl, rfl, rfl⟩ := enReads_shape (enOwn_reads hon)
      have hin3 := ensOwn_snoc (x := Row.mk (esAt l ys.length).e bl dl bs ds bf df) (ensOwn_kept hin hb3) hon
      have ho3 : EsOwns w3 w.heap.size (.slice (some ⟨w.heap.size, 0, none⟩) (esPart l.length ys).length l.length) (esPart l.length ys) := by rw [HL.out]; exact ownsR_kept ho hb3
      have hat := esPart_at hlt
      have hst := esStored ho3 ys.length rowZ (Row.mk (esAt l ys.length).e bl dl bs ds bf df) hat
      rw [esPart_set hlt, HL.out] at hst
      have f0 := World.ownsRow.frozenAt ho3 (ys.length * 7)
      have f1 := World.ownsRow.frozenAt ho3 (ys.length * 7 + 1)
      have f2 := World.ownsRow.frozenAt ho3 (ys.length * 7 + 2)
      have f3 := World.ownsRow.frozenAt ho3 (ys.length * 7 + 3)
      have f4 := World.ownsRow.frozenAt ho3 (ys.length * 7 + 4)
      have f5 := World.ownsRow.frozenAt ho3 (ys.length * 7 + 5)
      have f6 := World.ownsRow.frozenAt ho3 (ys.length * 7 + 6)
      have d0 : w3.cell? ⟨w.heap.size, ys.length * 7, none⟩ = _ := cellR rowC_len ho3 hat 0 _ rfl
      have d1 : w3.cell? ⟨w.heap.size, ys.length * 7 + 1, none⟩ = _ := cellR rowC_len ho3 hat 1 _ rfl
      have d2 : w3.cell? ⟨w.heap.size, ys.length * 7 + 2, none⟩ = _ := cellR rowC_len ho3 hat 2 _ rfl
      have d3 : w3.cell? ⟨w.heap.size, ys.length * 7 + 3, none⟩ = _ := cellR rowC_len ho3 hat 3 _ rfl
      have d4 : w3.cell? ⟨w.heap.size, ys.length * 7 + 4, none⟩ = some (.slice none 0 0) := cellR rowC_len ho3 hat 4 _ rfl
      have d5 : w3.cell? ⟨w.heap.size, ys.length * 7 + 5, none⟩ = some (.slice none 0 0) := cellR rowC_len ho3 hat 5 _ rfl
      have d6 : w3.cell? ⟨w.heap.size, ys.length * 7 + 6, none⟩ = some (.slice none 0 0) := cellR rowC_len ho3 hat 6 _ rfl
      have HO : Hid _ := hst
      have HIN : Hid _ := hin3
      have hz3 : w.heap.size + 1 ≤ w3.heap.size := Nat.le_trans hzr hb3.size
      clear hb3 hB ho ho3 hst hin hin3 hon hat hin1 hss c0 c1 c2 c3 c4 c5 c6
      go_wp2_with fail
      go_roundw
      case rel =>
        refine ⟨ys ++ [Row.mk (esAt l ys.length).e bl dl bs ds bf df], by simp; omega, by simp, by rw [List.length_append]; exact map_get HMAP.out hlt _ rfl, HO.out, ?_, ?_, ?_⟩
        · have := HIN.out
          have q := ensOwn_cell (ensOwn_cell (ensOwn_cell (ensOwn_cell (ensOwn_cell (ensOwn_cell (ensOwn_cell this ⟨w.heap.size, ys.length * 7, none⟩ (.string (esAt l ys.length).e.key) (by show w.heap.size < _; omega)) ⟨w.heap.size, ys.length * 7 + 1, none⟩ (.int .i64 (esAt l ys.length).e.til) (by show w.heap.size < _; omega)) ⟨w.heap.size, ys.length * 7 + 2, none⟩ (.int .i64 (esAt l ys.length).e.kind) (by show w.heap.size < _; omega)) ⟨w.heap.size, ys.length * 7 + 3, none⟩ (.string (esAt l ys.length).e.text) (by show w.heap.size < _; omega)) ⟨w.heap.size, ys.length * 7 + 4, none⟩ (.slice bl (esAt l ys.length).e.list.length dl) (by show w.heap.size < _; omega)) ⟨w.heap.size, ys.length * 7 + 5, none⟩ (.slice bs (esAt l ys.length).e.scores.length ds) (by show w.heap.size < _; omega)) ⟨w.heap.size, ys.length * 7 + 6, none⟩ (.slice bf (esAt l ys.length).e.fields.length df) (by show w.heap.size < _; omega)
          simp only [setCell_size] at q ⊢
          exact q
        · simp only [setCell_size]; exact hz3
        · exact ((((((hB3.setCell (Nat.le_refl _) _).setCell (Nat.le_refl _) _).setCell (Nat.le_refl _) _).setCell (Nat.le_refl _) _).setCell (Nat.le_refl _) _).setCell (Nat.le_refl _) _).setCell (Nat.le_refl _) _
      case measure => simp [intOf]; omega
    · have e : ys.length = l.length := by omega
      have e2 : esPart l.length ys = ys := by simp [esPart, e]
      rw [e2] at ho
      have hmap := HMAP.out
      rw [e, List.take_length] at hmap
      have HM : Hid _ := hmap
      have hk1 : ¬ (ys.length : Int) < (l.length : Int) := by omega
      clear HMAP hmap e2
      go_wp2_with fail
      go_ret
      have hlt3 : ∀ k, (Value.slice (some ⟨w.heap.size, 0, none⟩) l.length l.length).ownBlock = some k → k < w.heap.size + 1 := fun k hk => by
        have : w.heap.size = k := by simpa [Value.ownBlock] using hk
        omega
      exact ⟨⟨_, rfl, ys, HM.out, w.heap.size + 1, by omega, hzr, ⟨ho, hlt3⟩, hin⟩, hB⟩
end Go.Proofs.YtaiboncomibikaaGreatDoor
