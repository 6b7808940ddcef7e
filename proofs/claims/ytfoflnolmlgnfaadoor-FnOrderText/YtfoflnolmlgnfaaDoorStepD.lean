/- The reader of orders: a word's end, and whether the order is whole. -/
import Derived.Test.YtfoflnolmlgnfaaDoorStepC
namespace Go.Proofs.YtfoflnolmlgnfaaDoor
open Go.RowKit

def wholeB (m : Int) (n : Nat) : Bool := decide (0 < m) && ((n : Int) == m)
set_option maxHeartbeats 2000000 in
theorem whole_any (B r : Nat) (p : Value) (buf : List UInt8) (x2 x5 : Value) (ao : Option Addr) (n cap : Nat) (m : Int) (w : World) (h : EB w B r p buf x2 (.slice ao n cap) (.int .i64 m) x5) :
    Calls Tryd.prog 36 #[.pointer (some ⟨r, 0, none⟩)] w fun e w' => e = .returned (.bool (wholeB m n)) ∧ w' = w.drew := by
  have hc3 := (eb_cell2 h).2.1
  have hc4 := (eb_cell2 h).2.2.1
  by_cases hm : 0 < m
  · have hd : decide (0 < m) = true := by simpa using hm
    have HW : Hid (wholeB m n = ((n : Int) == m)) := by show _ = _; unfold wholeB; rw [hd]; rfl
    go_enter Tryd.func36, Tryd.ntmps36
    go_wp2_with fail
    refine wp_region_held_drew (S := (fun w' => w' = w.drew ∧ w'.cell? ⟨r, 3, none⟩ = some (.slice ao n cap) ∧ w'.cell? ⟨r, 4, none⟩ = some (.int .i64 m))) (by kernel_rfl) (by exact ⟨rfl, hc3, hc4⟩) (fun hHeld => ?_)
    refine takeH (i := 0) (d := (some 3)) (v := ?_) rfl rfl (by kernel_rfl) (by kernel_rfl) (by kernel_rfl) (fun _ _ _ h => h) (by kernel_rfl) ?_ (by assumption) ?_
    rotate_left
    · (intro w hSw; (try dsimp only at hSw); go_simp; try with_reducible rfl)
    try simp only [Act.put, List.setIfInBounds_toArray, List.set_cons_succ, List.set_cons_zero]
    refine takeH (i := 1) (d := (some 4)) (v := ?_) rfl rfl (by kernel_rfl) (by kernel_rfl) (by kernel_rfl) (fun _ _ _ h => h) (by kernel_rfl) ?_ (by assumption) ?_
    rotate_left
    · (intro w hSw; (try dsimp only at hSw); go_simp; try with_reducible rfl)
    try simp only [Act.put, List.setIfInBounds_toArray, List.set_cons_succ, List.set_cons_zero]
    refine takeH (i := 2) (d := (some 5)) (v := ?_) rfl rfl (by kernel_rfl) (by kernel_rfl) (by kernel_rfl) (fun _ _ _ h => h) (by kernel_rfl) ?_ (by assumption) ?_
    rotate_left
    · (intro w hSw; (try dsimp only at hSw); go_simp; try with_reducible rfl)
    try simp only [Act.put, List.setIfInBounds_toArray, List.set_cons_succ, List.set_cons_zero]
    refine takeH (i := 3) (d := (some 6)) (v := ?_) rfl rfl (by kernel_rfl) (by kernel_rfl) (by kernel_rfl) (fun _ _ _ h => h) (by kernel_rfl) ?_ (by assumption) ?_
    rotate_left
    · (intro w hSw; (try dsimp only at hSw); go_simp; try with_reducible rfl)
    try simp only [Act.put, List.setIfInBounds_toArray, List.set_cons_succ, List.set_cons_zero]
    refine takeH (i := 4) (d := (some 7)) (v := ?_) rfl rfl (by kernel_rfl) (by kernel_rfl) (by kernel_rfl) (fun _ _ _ h => h) (by kernel_rfl) ?_ (by assumption) ?_
    rotate_left
    · (intro w hSw; (try dsimp only at hSw); go_simp; try with_reducible rfl)
    try simp only [Act.put, List.setIfInBounds_toArray, List.set_cons_succ, List.set_cons_zero]
    refine takeH (i := 5) (d := (some 8)) (v := ?_) rfl rfl (by kernel_rfl) (by kernel_rfl) (by kernel_rfl) (fun _ _ _ h => h) (by kernel_rfl) ?_ (by assumption) ?_
    rotate_left
    · (intro w hSw; (try dsimp only at hSw); go_simp; try with_reducible rfl)
    try simp only [Act.put, List.setIfInBounds_toArray, List.set_cons_succ, List.set_cons_zero]
    refine takeH (i := 6) (d := (some 9)) (v := ?_) rfl rfl (by kernel_rfl) (by kernel_rfl) (by kernel_rfl) (fun _ _ _ h => h) (by kernel_rfl) ?_ (by assumption) ?_
    rotate_left
    · (intro w hSw; (try dsimp only at hSw); go_simp; try with_reducible rfl)
    try simp only [Act.put, List.setIfInBounds_toArray, List.set_cons_succ, List.set_cons_zero]
    refine takeH (i := 7) (d := (some 10)) (v := ?_) rfl rfl (by kernel_rfl) (by kernel_rfl) (by kernel_rfl) (fun _ _ _ h => h) (by kernel_rfl) ?_ (by assumption) ?_
    rotate_left
    · (intro w hSw; (try dsimp only at hSw); go_simp; try with_reducible rfl)
    try simp only [Act.put, List.setIfInBounds_toArray, List.set_cons_succ, List.set_cons_zero]
    refine takeH (i := 8) (d := (some 11)) (v := ?_) rfl rfl (by kernel_rfl) (by kernel_rfl) (by kernel_rfl) (fun _ _ _ h => h) (by kernel_rfl) ?_ (by assumption) ?_
    rotate_left
    · (intro w hSw; (try dsimp only at hSw); go_simp; try with_reducible rfl)
    try simp only [Act.put, List.setIfInBounds_toArray, List.set_cons_succ, List.set_cons_zero]
    refine takeH (i := 9) (d := (some 12)) (v := ?_) rfl rfl (by kernel_rfl) (by kernel_rfl) (by kernel_rfl) (fun _ _ _ h => h) (by kernel_rfl) ?_ (by assumption) ?_
    rotate_left
    · (intro w hSw; (try dsimp only at hSw); go_simp; try with_reducible rfl)
    try simp only [Act.put, List.setIfInBounds_toArray, List.set_cons_succ, List.set_cons_zero]
    refine takeH (i := 10) (d := (some 13)) (v := ?_) rfl rfl (by kernel_rfl) (by kernel_rfl) (by kernel_rfl) (fun _ _ _ h => h) (by kernel_rfl) ?_ (by assumption) ?_
    rotate_left
    · (intro w hSw; (try dsimp only at hSw); go_simp; try with_reducible rfl)
    try simp only [Act.put, List.setIfInBounds_toArray, List.set_cons_succ, List.set_cons_zero]
    refine takeH (i := 11) (d := (some 14)) (v := ?_) rfl rfl (by kernel_rfl) (by kernel_rfl) (by kernel_rfl) (fun _ _ _ h => h) (by kernel_rfl) ?_ (by assumption) ?_
    rotate_left
    · (intro w hSw; (try dsimp only at hSw); go_simp; try with_reducible rfl)
    try simp only [Act.put, List.setIfInBounds_toArray, List.set_cons_succ, List.set_cons_zero]
    refine takeH (i := 12) (d := (some 15)) (v := ?_) rfl rfl (by kernel_rfl) (by kernel_rfl) (by kernel_rfl) (fun _ _ _ h => h) (by kernel_rfl) ?_ (by assumption) ?_
    rotate_left
    · (intro w hSw; (try dsimp only at hSw); go_simp; try with_reducible rfl)
    try simp only [Act.put, List.setIfInBounds_toArray, List.set_cons_succ, List.set_cons_zero]
    refine takeH (i := 13) (d := (some 16)) (v := ?_) rfl rfl (by kernel_rfl) (by kernel_rfl) (by kernel_rfl) (fun _ _ _ h => h) (by kernel_rfl) ?_ (by assumption) ?_
    rotate_left
    · (intro w hSw; (try dsimp only at hSw); go_simp; try with_reducible rfl)
    try simp only [Act.put, List.setIfInBounds_toArray, List.set_cons_succ, List.set_cons_zero]
    refine takeH (i := 14) (d := (some 17)) (v := ?_) rfl rfl (by kernel_rfl) (by kernel_rfl) (by kernel_rfl) (fun _ _ _ h => h) (by kernel_rfl) ?_ (by assumption) ?_
    rotate_left
    · (intro w hSw; (try dsimp only at hSw); go_simp; try with_reducible rfl)
    try simp only [Act.put, List.setIfInBounds_toArray, List.set_cons_succ, List.set_cons_zero]
    refine takeH (i := 15) (d := (some 18)) (v := ?_) rfl rfl (by kernel_rfl) (by kernel_rfl) (by kernel_rfl) (fun _ _ _ h => h) (by kernel_rfl) ?_ (by assumption) ?_
    rotate_left
    · (intro w hSw; (try dsimp only at hSw); go_simp; try with_reducible rfl)
    try simp only [Act.put, List.setIfInBounds_toArray, List.set_cons_succ, List.set_cons_zero]
    refine takeH (i := 16) (d := (some 19)) (v := ?_) rfl rfl (by kernel_rfl) (by kernel_rfl) (by kernel_rfl) (fun _ _ _ h => h) (by kernel_rfl) ?_ (by assumption) ?_
    rotate_left
    · (intro w hSw; (try dsimp only at hSw); go_simp; try with_reducible rfl)
    try simp only [Act.put, List.setIfInBounds_toArray, List.set_cons_succ, List.set_cons_zero]
    refine takeH (i := 17) (d := (some 2)) (v := ?_) rfl rfl (by kernel_rfl) (by kernel_rfl) (by kernel_rfl) (fun _ _ _ h => h) (by kernel_rfl) ?_ (by assumption) ?_
    rotate_left
    · (intro w hSw; (try dsimp only at hSw); go_simp; try with_reducible rfl)
    try simp only [Act.put, List.setIfInBounds_toArray, List.set_cons_succ, List.set_cons_zero]
    refine wpAnyH_done (by kernel_rfl) ?_ _
    clear hHeld
    go_wp2_with fail
    go_ret
    exact ⟨by rw [HW.out]; rfl, rfl⟩
  · have hd : decide (0 < m) = false := by simpa using hm
    have HW : Hid (wholeB m n = false) := by show _ = _; unfold wholeB; rw [hd]; rfl
    go_enter Tryd.func36, Tryd.ntmps36
    go_wp2_with fail
    refine wp_region_held_drew (S := (fun w' => w' = w.drew ∧ w'.cell? ⟨r, 3, none⟩ = some (.slice ao n cap) ∧ w'.cell? ⟨r, 4, none⟩ = some (.int .i64 m))) (by kernel_rfl) (by exact ⟨rfl, hc3, hc4⟩) (fun hHeld => ?_)
    refine takeH (i := 0) (d := (some 3)) (v := ?_) rfl rfl (by kernel_rfl) (by kernel_rfl) (by kernel_rfl) (fun _ _ _ h => h) (by kernel_rfl) ?_ (by assumption) ?_
    rotate_left
    · (intro w hSw; (try dsimp only at hSw); go_simp; try with_reducible rfl)
    try simp only [Act.put, List.setIfInBounds_toArray, List.set_cons_succ, List.set_cons_zero]
    refine takeH (i := 1) (d := (some 4)) (v := ?_) rfl rfl (by kernel_rfl) (by kernel_rfl) (by kernel_rfl) (fun _ _ _ h => h) (by kernel_rfl) ?_ (by assumption) ?_
    rotate_left
    · (intro w hSw; (try dsimp only at hSw); go_simp; try with_reducible rfl)
    try simp only [Act.put, List.setIfInBounds_toArray, List.set_cons_succ, List.set_cons_zero]
    refine takeH (i := 2) (d := (some 5)) (v := ?_) rfl rfl (by kernel_rfl) (by kernel_rfl) (by kernel_rfl) (fun _ _ _ h => h) (by kernel_rfl) ?_ (by assumption) ?_
    rotate_left
    · (intro w hSw; (try dsimp only at hSw); go_simp; try with_reducible rfl)
    try simp only [Act.put, List.setIfInBounds_toArray, List.set_cons_succ, List.set_cons_zero]
    refine takeH (i := 3) (d := (some 6)) (v := ?_) rfl rfl (by kernel_rfl) (by kernel_rfl) (by kernel_rfl) (fun _ _ _ h => h) (by kernel_rfl) ?_ (by assumption) ?_
    rotate_left
    · (intro w hSw; (try dsimp only at hSw); go_simp; try with_reducible rfl)
    try simp only [Act.put, List.setIfInBounds_toArray, List.set_cons_succ, List.set_cons_zero]
    refine takeH (i := 4) (d := (some 7)) (v := ?_) rfl rfl (by kernel_rfl) (by kernel_rfl) (by kernel_rfl) (fun _ _ _ h => h) (by kernel_rfl) ?_ (by assumption) ?_
    rotate_left
    · (intro w hSw; (try dsimp only at hSw); go_simp; try with_reducible rfl)
    try simp only [Act.put, List.setIfInBounds_toArray, List.set_cons_succ, List.set_cons_zero]
    refine takeH (i := 5) (d := (some 8)) (v := ?_) rfl rfl (by kernel_rfl) (by kernel_rfl) (by kernel_rfl) (fun _ _ _ h => h) (by kernel_rfl) ?_ (by assumption) ?_
    rotate_left
    · (intro w hSw; (try dsimp only at hSw); go_simp; try with_reducible rfl)
    try simp only [Act.put, List.setIfInBounds_toArray, List.set_cons_succ, List.set_cons_zero]
    refine skipH (i := 6) (d := (some 9)) rfl rfl (by kernel_rfl) (by kernel_rfl) (by kernel_rfl) (fun _ _ _ h => h) (by kernel_rfl) (by assumption) ?_
    try simp only [Act.put, List.setIfInBounds_toArray, List.set_cons_succ, List.set_cons_zero]
    refine skipH (i := 7) (d := (some 10)) rfl rfl (by kernel_rfl) (by kernel_rfl) (by kernel_rfl) (fun _ _ _ h => h) (by kernel_rfl) (by assumption) ?_
    try simp only [Act.put, List.setIfInBounds_toArray, List.set_cons_succ, List.set_cons_zero]
    refine skipH (i := 8) (d := (some 11)) rfl rfl (by kernel_rfl) (by kernel_rfl) (by kernel_rfl) (fun _ _ _ h => h) (by kernel_rfl) (by assumption) ?_
    try simp only [Act.put, List.setIfInBounds_toArray, List.set_cons_succ, List.set_cons_zero]
    refine skipH (i := 9) (d := (some 12)) rfl rfl (by kernel_rfl) (by kernel_rfl) (by kernel_rfl) (fun _ _ _ h => h) (by kernel_rfl) (by assumption) ?_
    try simp only [Act.put, List.setIfInBounds_toArray, List.set_cons_succ, List.set_cons_zero]
    refine skipH (i := 10) (d := (some 13)) rfl rfl (by kernel_rfl) (by kernel_rfl) (by kernel_rfl) (fun _ _ _ h => h) (by kernel_rfl) (by assumption) ?_
    try simp only [Act.put, List.setIfInBounds_toArray, List.set_cons_succ, List.set_cons_zero]
    refine skipH (i := 11) (d := (some 14)) rfl rfl (by kernel_rfl) (by kernel_rfl) (by kernel_rfl) (fun _ _ _ h => h) (by kernel_rfl) (by assumption) ?_
    try simp only [Act.put, List.setIfInBounds_toArray, List.set_cons_succ, List.set_cons_zero]
    refine skipH (i := 12) (d := (some 15)) rfl rfl (by kernel_rfl) (by kernel_rfl) (by kernel_rfl) (fun _ _ _ h => h) (by kernel_rfl) (by assumption) ?_
    try simp only [Act.put, List.setIfInBounds_toArray, List.set_cons_succ, List.set_cons_zero]
    refine skipH (i := 13) (d := (some 16)) rfl rfl (by kernel_rfl) (by kernel_rfl) (by kernel_rfl) (fun _ _ _ h => h) (by kernel_rfl) (by assumption) ?_
    try simp only [Act.put, List.setIfInBounds_toArray, List.set_cons_succ, List.set_cons_zero]
    refine skipH (i := 14) (d := (some 17)) rfl rfl (by kernel_rfl) (by kernel_rfl) (by kernel_rfl) (fun _ _ _ h => h) (by kernel_rfl) (by assumption) ?_
    try simp only [Act.put, List.setIfInBounds_toArray, List.set_cons_succ, List.set_cons_zero]
    refine skipH (i := 15) (d := (some 18)) rfl rfl (by kernel_rfl) (by kernel_rfl) (by kernel_rfl) (fun _ _ _ h => h) (by kernel_rfl) (by assumption) ?_
    try simp only [Act.put, List.setIfInBounds_toArray, List.set_cons_succ, List.set_cons_zero]
    refine takeH (i := 16) (d := (some 19)) (v := ?_) rfl rfl (by kernel_rfl) (by kernel_rfl) (by kernel_rfl) (fun _ _ _ h => h) (by kernel_rfl) ?_ (by assumption) ?_
    rotate_left
    · (intro w hSw; (try dsimp only at hSw); go_simp; try with_reducible rfl)
    try simp only [Act.put, List.setIfInBounds_toArray, List.set_cons_succ, List.set_cons_zero]
    refine takeH (i := 17) (d := (some 2)) (v := ?_) rfl rfl (by kernel_rfl) (by kernel_rfl) (by kernel_rfl) (fun _ _ _ h => h) (by kernel_rfl) ?_ (by assumption) ?_
    rotate_left
    · (intro w hSw; (try dsimp only at hSw); go_simp; try with_reducible rfl)
    try simp only [Act.put, List.setIfInBounds_toArray, List.set_cons_succ, List.set_cons_zero]
    refine wpAnyH_done (by kernel_rfl) ?_ _
    clear hHeld
    go_wp2_with fail
    go_ret
    exact ⟨by rw [HW.out]; rfl, rfl⟩
/-- a row of texts stands where nothing but the reader's block and rows of bytes was touched -/
theorem owns_others {w w' : World} {B r : Nat} {v : Value} {ws : List ByteArray} {p bv x2 x3 x4 x5 : Value} (h : Owns w B v ws) (hk : Lib.OthersKept 5 (some r) w w') (hr : w.heap[r]? = some (.cells #[p, bv, x2, x3, x4, x5] 69 (0, 0))) : Owns w' B v ws := by
  refine ⟨h.1, ?_⟩
  rcases h.2 with hn | ⟨g, cap, cur, rfl, hb, hg, rest⟩
  · exact .inl hn
  · refine .inr ⟨g, cap, cur, rfl, hb, hk g _ hg (fun e => ?_) (fun c fz e => ?_), rest⟩
    · have : g = r := Option.some.inj e
      subst this
      rw [hg] at hr
      injection hr with hr
      injection hr with _ ht _
      exact absurd ht (by decide)
    · injection e with _ ht _
      exact absurd ht (by decide)
/-- the reader stands where a row of texts has grown -/
theorem eb_grown {w w' : World} {B r : Nat} {p : Value} {buf : List UInt8} {x2 x3 x4 x5 v : Value} {ws : List ByteArray} (h : EB w B r p buf x2 x3 x4 x5) (ho : Owns w B v ws) (hg : w.grownBy w' v.ownBlock) : EB w' B r p buf x2 x3 x4 x5 := by
  obtain ⟨hB, bv, hb, hown, hne, hn⟩ := h
  have hlt := (Array.getElem?_eq_some_iff.1 hb).1
  have hrow : ∀ k, v.ownBlock = some k → ∃ cs, w.heap[k]? = some (.cells cs 9 (0, 0)) := fun k hk => by
    rcases ho.2 with ⟨hv, _⟩ | ⟨g, cap, cur, hv, _, hgg, _⟩
    · rw [hv] at hk; simp [Value.ownBlock] at hk
    · rw [hv] at hk
      have : g = k := by simpa [Value.ownBlock] using hk
      subst this; exact ⟨cur, hgg⟩
  refine ⟨hB, bv, (hg.block r hlt (fun e => ?_)).trans hb, hown.kept hg ?_, hne, hn⟩
  · obtain ⟨cs, hcs⟩ := hrow r e.symm
    rw [hb] at hcs
    injection hcs with hcs
    injection hcs with _ ht _
    exact absurd ht (by decide)
  · cases hv : bv.ownBlock with
    | none => exact .inl rfl
    | some k =>
      right
      intro e
      obtain ⟨cs, hcs⟩ := hrow k e.symm
      obtain ⟨c2, fz, hc2⟩ := Lib.ownsRowF_kind hown k hv
      rw [hc2] at hcs
      injection hcs with hcs
      injection hcs with _ ht _
      exact absurd ht (by decide)
theorem eb_alloc {w : World} {B r : Nat} {p : Value} {buf : List UInt8} {x2 x3 x4 x5 : Value} (h : EB w B r p buf x2 x3 x4 x5) (o : Obj) : EB (w.alloc o) B r p buf x2 x3 x4 x5 := by
  obtain ⟨hB, bv, hb, hown, hne, hn⟩ := h
  have hlt := (Array.getElem?_eq_some_iff.1 hb).1
  exact ⟨hB, bv, ((Below.refl w.heap.size w).alloc (Nat.le_refl _) o).block r hlt |>.trans hb, hown.alloc o, hne, hn⟩
theorem eb_words {w : World} {B r : Nat} {p : Value} {buf : List UInt8} {x2 x3 x4 x5 : Value} (h : EB w B r p buf x2 x3 x4 x5) (y : Value) : EB (w.setCell ⟨r, 3, none⟩ y) B r p buf x2 y x4 x5 := eb_keep h y (fun _ => rfl)
theorem infoSt : (Tryd.prog.info? 9).map (fun i => (i.zero, i.size, i.bytes)) = some (some (.string ByteArray.empty), 1, 16) := by kernel_rfl
theorem step_append_S {P : Program} {w : World} {ops : Array Oper} {o : Oper} {a : Act} {K : Act → World → Prop} {Q : Exit → Act → World → Prop} {E : Prop} {d : Option Tmp} (hw : Region.wanted o (yielded ops a.tmps) = true) (hd : o.dst = d) (s x : Operand) (t : TypeId)
    (ho : o.op = .call { callee := .builtin .append, args := #[s, x], argTypes := #[t, t] })
    (base : Nat) (e : TypeId) (i : TypeInfo) (z : Value) (size bytes : Nat) (ht : P.underlying t = some (.slice e)) (hi : P.info? e = some i) (hz : i.zero = some z)
    (hsize : i.size = size) (hby : i.bytes = bytes) (hzs : z.cells.size = size) (hsz : 0 < size)
    (v : Value) (n : Nat) (xs : List Value) (hs : a.eval s = v) (hown : w.ownsRow base e size v n xs)
    (ad : Addr) (m c : Nat) (news : List Value) (hx : a.eval x = .slice (some ad) m c) (hl : news.length = m * size) (hnews : ∀ j u, news[j]? = some u → w.cell? (ad.add j) = some u) (h1 : ∀ u ∈ news, u.oneCell' = true)
    (h63 : n + m ≤ maxLen) (hbytes : (n + m) * bytes ≤ 140737488355328) (hbase : base ≤ w.heap.size)
    (h : ∀ v' w', w'.ownsRow base e size v' (n + m) (xs ++ news) → w.grownBy w' v.ownBlock → K (a.put d v') w') :
    if Region.wanted o (yielded ops a.tmps) = true then Oper.wp P o a w K Q else E := by
  subst hd
  rw [if_pos hw]
  exact wp_append_own w s x t ho base e i z size bytes ht hi hz hsize hby hzs hsz v n xs hs hown ad m c news hx hl hnews h1 h63 hbytes hbase fun v' w' h2 h3 _ => h v' w' h2 h3
theorem cell_str (w : World) (s : ByteArray) (t : TypeId) : ∀ j u, [Value.string s][j]? = some u → (w.alloc (.cells #[.string s] t)).cell? ((⟨w.heap.size, 0, none⟩ : Addr).add j) = some u := by
  intro j u hj
  match j, hj with
  | 0, hj => simp at hj; subst hj; simp [Addr.add]
theorem grown_st (w : World) (b o : Nat) (u : Value) : w.grownBy (w.setCell ⟨b, o, none⟩ u) (some b) := by
  refine ⟨rfl, rfl, rfl, ?_, fun k hk hne => Below.heap_setCell w ⟨b, o, none⟩ u k (fun e => hne (by rw [e]))⟩
  exact (Below.refl 0 w).setCell (p := ⟨b, o, none⟩) (Nat.zero_le _) u |>.size
theorem owns_not {w : World} {B r : Nat} {p : Value} {buf : List UInt8} {x2 x3 x4 x5 v : Value} {ws : List ByteArray} (ho : Owns w B v ws) (h : EB w B r p buf x2 x3 x4 x5) : v.ownBlock ≠ some r := by
  intro hk
  obtain ⟨_, bv, hb, _⟩ := h
  rcases ho.2 with ⟨hv, _⟩ | ⟨g, cap, cur, hv, _, hgg, _⟩
  · rw [hv] at hk; simp [Value.ownBlock] at hk
  · rw [hv] at hk
    have : g = r := by simpa [Value.ownBlock] using hk
    subst this
    rw [hb] at hgg
    injection hgg with hgg
    injection hgg with _ ht _
    exact absurd ht (by decide)
set_option maxHeartbeats 4000000 in
theorem wordEnd_any (B r : Nat) (p : Value) (buf : List UInt8) (x2 wv x4 x5 : Value) (ws : List ByteArray) (c : UInt8) (w : World) (h : EB w B r p buf x2 wv x4 x5) (ho : Owns w B wv ws) (hl : ws.length ≤ 1000) (hBw : B ≤ w.heap.size) :
    Calls Tryd.prog 98 #[.pointer (some ⟨r, 0, none⟩), .int .u8 (c.toNat : Int)] w fun e w' => ∃ wv', e = .returned (.bool ((c.toNat : Int) == 10)) ∧ EB w' B r (.pointer none) [] (stp 76 r) wv' x4 x5 ∧ Owns w' B wv' (ws ++ [⟨buf.toArray⟩]) ∧ Below B w w' := by
  obtain ⟨i0, hi, hz0, hz1, hz2⟩ := info_parts infoSt
  have hB := h.1
  have hc3 := (eb_cell2 h).2.1
  obtain ⟨_, bv, hbk, _⟩ := id h
  have hrs := fun (w : World) (a : Addr) => run_store Tryd.prog w a (.func (.func 76) #[.pointer (some ⟨r, 0, none⟩)] #[]) .plain rfl
  go_enter Tryd.func98, Tryd.ntmps98
  go_wp2_with fail
  refine wp_region_held_drew (S := (fun _ => True)) (by kernel_rfl) (by trivial) (fun hHeld => ?_)
  refine takeH (i := 0) (d := (some 5)) (v := ?_) rfl rfl (by kernel_rfl) (by kernel_rfl) (by kernel_rfl) (fun _ _ _ h => h) (by kernel_rfl) ?_ (by assumption) ?_
  rotate_left
  · (intro w hSw; (try dsimp only at hSw); go_simp; try with_reducible rfl)
  try simp only [Act.put, List.setIfInBounds_toArray, List.set_cons_succ, List.set_cons_zero]
  refine takeH (i := 1) (d := (some 6)) (v := ?_) rfl rfl (by kernel_rfl) (by kernel_rfl) (by kernel_rfl) (fun _ _ _ h => h) (by kernel_rfl) ?_ (by assumption) ?_
  rotate_left
  · (intro w hSw; (try dsimp only at hSw); go_simp; try with_reducible rfl)
  try simp only [Act.put, List.setIfInBounds_toArray, List.set_cons_succ, List.set_cons_zero]
  refine takeH (i := 2) (d := (some 7)) (v := ?_) rfl rfl (by kernel_rfl) (by kernel_rfl) (by kernel_rfl) (fun _ _ _ h => h) (by kernel_rfl) ?_ (by assumption) ?_
  rotate_left
  · (intro w hSw; (try dsimp only at hSw); go_simp; try with_reducible rfl)
  try simp only [Act.put, List.setIfInBounds_toArray, List.set_cons_succ, List.set_cons_zero]
  refine takeH (i := 3) (d := (some 8)) (v := ?_) rfl rfl (by kernel_rfl) (by kernel_rfl) (by kernel_rfl) (fun _ _ _ h => h) (by kernel_rfl) ?_ (by assumption) ?_
  rotate_left
  · (intro w hSw; (try dsimp only at hSw); go_simp; try with_reducible rfl)
  try simp only [Act.put, List.setIfInBounds_toArray, List.set_cons_succ, List.set_cons_zero]
  refine takeH (i := 5) (d := (some 10)) (v := ?_) rfl rfl (by kernel_rfl) (by kernel_rfl) (by kernel_rfl) (fun _ _ _ h => h) (by kernel_rfl) ?_ (by assumption) ?_
  rotate_left
  · (intro w hSw; (try dsimp only at hSw); go_simp; try with_reducible rfl)
  try simp only [Act.put, List.setIfInBounds_toArray, List.set_cons_succ, List.set_cons_zero]
  refine takeH (i := 6) (d := (some 11)) (v := ?_) rfl rfl (by kernel_rfl) (by kernel_rfl) (by kernel_rfl) (fun _ _ _ h => h) (by kernel_rfl) ?_ (by assumption) ?_
  rotate_left
  · (intro w hSw; (try dsimp only at hSw); go_simp; try with_reducible rfl)
  try simp only [Act.put, List.setIfInBounds_toArray, List.set_cons_succ, List.set_cons_zero]
  refine takeH (i := 7) (d := (some 12)) (v := ?_) rfl rfl (by kernel_rfl) (by kernel_rfl) (by kernel_rfl) (fun _ _ _ h => h) (by kernel_rfl) ?_ (by assumption) ?_
  rotate_left
  · (intro w hSw; (try dsimp only at hSw); go_simp; try with_reducible rfl)
  try simp only [Act.put, List.setIfInBounds_toArray, List.set_cons_succ, List.set_cons_zero]
  refine wpAnyH_ready (rs := [4, 8]) (by kernel_rfl) (by simp) ?_
  refine AllReadyH.cons rfl (fun K hK => ?_) (AllReadyH.cons rfl (fun K hK => ?_) AllReadyH.nil)
  · go_simp
    refine hK.out _ _ trivial (fun hHeld => ?_)
    clear hK K
    try simp only [Act.put, List.setIfInBounds_toArray, List.set_cons_succ, List.set_cons_zero]
    refine wpAnyH_ready (rs := [8]) (by kernel_rfl) (by simp) ?_
    refine AllReadyH.cons rfl (fun K hK => ?_) AllReadyH.nil
    go_simp
    refine (stringE_any B r p buf x2 wv x4 x5 _ (by exact h)).mono ?_; rintro e w1 ⟨rfl, hE1, hB1, hO1⟩
    refine hK.out _ _ ?_ (fun hHeld => ?_)
    · trivial
    clear hK K
    try simp only [Act.put, List.setIfInBounds_toArray, List.set_cons_succ, List.set_cons_zero]
    replace hB1 : Below B w w1 := ⟨hB1.os, hB1.tape, hB1.output, hB1.size, hB1.block⟩
    replace hO1 : Lib.OthersKept 5 (some r) w w1 := hO1
    have ho1 : Owns w1 B wv ws := owns_others (w := w) ho hO1 hbk
    have hs1 := hB1.size
    refine wpAnyH_ready (rs := [9]) (by kernel_rfl) (by simp) ?_
    refine AllReadyH.cons rfl (fun K hK => ?_) AllReadyH.nil
    go_simp
    refine hK.out _ _ ?_ (fun hHeld => ?_)
    · trivial
    clear hK K
    try simp only [Act.put, List.setIfInBounds_toArray, List.set_cons_succ, List.set_cons_zero]
    refine wpAnyH_ready (rs := [10]) (by kernel_rfl) (by simp) ?_
    refine AllReadyH.cons rfl (fun K hK => ?_) AllReadyH.nil
    refine step_append_S (d := some 15) (by kernel_rfl) rfl (.tmp 9) (.tmp 14) 23 rfl B 9 i0 (.string ByteArray.empty) 1 16 Tryd.underlying23 hi hz0 hz1 hz2 rfl (by decide) _ _ _ rfl (World.ownsRow.alloc ho1 _) ⟨w1.heap.size, 0, none⟩ 1 1 [.string ⟨buf.toArray⟩] rfl rfl (cell_str _ _ _) (by intro u hu; simp at hu; subst hu; rfl) (by unfold maxLen; omega) (by omega) (by simp; omega) ?_; intro v2 w2 hown2 hg2
    refine hK.out _ _ ?_ (fun hHeld => ?_)
    · trivial
    clear hK K
    (try simp only [Act.put]); (try simp only [List.setIfInBounds_toArray]); (try simp only [List.set_cons_succ]); (try simp only [List.set_cons_zero])
    have hE2 := eb_grown (eb_alloc hE1 (.cells #[.string ⟨buf.toArray⟩] 9)) (v := wv) (ws := ws) (World.ownsRow.alloc ho1 _) hg2
    have ho2 : Owns w2 B v2 (ws ++ [⟨buf.toArray⟩]) := by unfold Owns; rw [List.length_append, List.map_append]; exact hown2
    have hB2 : Below B w w2 := (hB1.alloc (by omega) _).grown hg2 (by simp; omega) (fun k hk => (World.ownsRow.lt ho1 k hk).1)
    obtain ⟨ao2, n2, c2, rfl⟩ : ∃ ao2 n2 c2, v2 = .slice ao2 n2 c2 := by rcases hown2.2 with ⟨hv, _⟩ | ⟨g, cap, cur, hv, _⟩ <;> exact ⟨_, _, _, hv⟩
    have hc32 := (eb_cell2 hE2).2.1
    have hf32 := eb_frozen hE2 3
    have hE3 := eb_words hE2 (.slice ao2 n2 c2)
    have hn3 : (Value.slice ao2 n2 c2).ownBlock ≠ some r := owns_not ho2 hE2
    have ho3 : Owns (w2.setCell ⟨r, 3, none⟩ (.slice ao2 n2 c2)) B (.slice ao2 n2 c2) (ws ++ [⟨buf.toArray⟩]) := World.ownsRow.kept (row := some r) ho2 (grown_st w2 r 3 _) (.inr hn3)
    have hB3 := hB2.setCell (p := ⟨r, 3, none⟩) hB (.slice ao2 n2 c2)
    clear hE1 ho1 hown2 hg2 hE2 ho2 hB2 hB1 hO1
    refine takeH (i := 11) (d := (some 16)) (v := ?_) rfl rfl (by kernel_rfl) (by kernel_rfl) (by kernel_rfl) (fun _ _ _ h => h) (by kernel_rfl) ?_ (by assumption) ?_
    rotate_left
    · (intro w hSw; (try dsimp only at hSw); go_simp; try with_reducible rfl)
    try simp only [Act.put, List.setIfInBounds_toArray, List.set_cons_succ, List.set_cons_zero]
    refine takeH (i := 12) (d := (some 17)) (v := ?_) rfl rfl (by kernel_rfl) (by kernel_rfl) (by kernel_rfl) (fun _ _ _ h => h) (by kernel_rfl) ?_ (by assumption) ?_
    rotate_left
    · (intro w hSw; (try dsimp only at hSw); go_simp; try with_reducible rfl)
    try simp only [Act.put, List.setIfInBounds_toArray, List.set_cons_succ, List.set_cons_zero]
    refine wpAnyH_ready (rs := [13]) (by kernel_rfl) (by simp) ?_
    refine AllReadyH.cons rfl (fun K hK => ?_) AllReadyH.nil
    go_simp
    refine hK.out _ _ ?_ (fun hHeld => ?_)
    · trivial
    clear hK K
    try simp only [Act.put, List.setIfInBounds_toArray, List.set_cons_succ, List.set_cons_zero]
    refine wpAnyH_done (by kernel_rfl) ?_ _
    clear hHeld
    generalize hW : w2.setCell ⟨r, 3, none⟩ (.slice ao2 n2 c2) = w3 at *
    go_wp2_with fail
    refine (resetE_any B r p buf x2 _ x4 x5 _ hE3).mono ?_
    rintro e w4 ⟨rfl, hE4, hB4, hO4⟩
    obtain ⟨_, bv3, hbk3, _⟩ := hE3
    have ho4 := owns_others ho3 hO4 hbk3
    have hE5 := eb_step hE4 (stp 76 r)
    have hf2 := eb_frozen hE4 2
    have hc2' := (eb_cell2 hE4).1
    have hn5 : (Value.slice ao2 n2 c2).ownBlock ≠ some r := owns_not ho4 hE4
    have ho5 := World.ownsRow.kept (row := some r) ho4 (grown_st w4 r 2 (stp 76 r)) (.inr hn5)
    have hB5 := (hB3.trans hB4).setCell (p := ⟨r, 2, none⟩) hB (stp 76 r)
    go_wp2_with fail
    go_ret
    exact ⟨_, rfl, hE5, ho5, hB5⟩
  · go_simp
    refine (stringE_any B r p buf x2 wv x4 x5 _ (by exact h)).mono ?_
    rintro e w1 ⟨rfl, hE1, hB1, hO1⟩
    replace hB1 : Below B w w1 := ⟨hB1.os, hB1.tape, hB1.output, hB1.size, hB1.block⟩
    replace hO1 : Lib.OthersKept 5 (some r) w w1 := hO1
    have ho1 : Owns w1 B wv ws := owns_others (w := w) ho hO1 hbk
    have hs1 := hB1.size
    have hc31 := (eb_cell2 hE1).2.1
    have hc32' := (eb_cell2 (eb_alloc hE1 (.cells #[.string ⟨buf.toArray⟩] 9))).2.1
    refine hK.out _ _ trivial (fun hHeld => ?_)
    clear hK K
    try simp only [Act.put, List.setIfInBounds_toArray, List.set_cons_succ, List.set_cons_zero]
    refine wpAnyH_ready (rs := [4, 9]) (by kernel_rfl) (by simp) ?_
    refine AllReadyH.cons rfl (fun K hK => ?_) (AllReadyH.cons rfl (fun K hK => ?_) AllReadyH.nil)
    · go_simp
      refine hK.out _ _ trivial (fun hHeld => ?_)
      clear hK K hc31 hc32'
      try simp only [Act.put, List.setIfInBounds_toArray, List.set_cons_succ, List.set_cons_zero]
      refine wpAnyH_ready (rs := [9]) (by kernel_rfl) (by simp) ?_
      refine AllReadyH.cons rfl (fun K hK => ?_) AllReadyH.nil
      go_simp
      refine hK.out _ _ ?_ (fun hHeld => ?_)
      · trivial
      clear hK K
      try simp only [Act.put, List.setIfInBounds_toArray, List.set_cons_succ, List.set_cons_zero]
      refine wpAnyH_ready (rs := [10]) (by kernel_rfl) (by simp) ?_
      refine AllReadyH.cons rfl (fun K hK => ?_) AllReadyH.nil
      refine step_append_S (d := some 15) (by kernel_rfl) rfl (.tmp 9) (.tmp 14) 23 rfl B 9 i0 (.string ByteArray.empty) 1 16 Tryd.underlying23 hi hz0 hz1 hz2 rfl (by decide) _ _ _ rfl (World.ownsRow.alloc ho1 _) ⟨w1.heap.size, 0, none⟩ 1 1 [.string ⟨buf.toArray⟩] rfl rfl (cell_str _ _ _) (by intro u hu; simp at hu; subst hu; rfl) (by unfold maxLen; omega) (by omega) (by simp; omega) ?_; intro v2 w2 hown2 hg2
      refine hK.out _ _ ?_ (fun hHeld => ?_)
      · trivial
      clear hK K
      (try simp only [Act.put]); (try simp only [List.setIfInBounds_toArray]); (try simp only [List.set_cons_succ]); (try simp only [List.set_cons_zero])
      have hE2 := eb_grown (eb_alloc hE1 (.cells #[.string ⟨buf.toArray⟩] 9)) (v := wv) (ws := ws) (World.ownsRow.alloc ho1 _) hg2
      have ho2 : Owns w2 B v2 (ws ++ [⟨buf.toArray⟩]) := by unfold Owns; rw [List.length_append, List.map_append]; exact hown2
      have hB2 : Below B w w2 := (hB1.alloc (by omega) _).grown hg2 (by simp; omega) (fun k hk => (World.ownsRow.lt ho1 k hk).1)
      obtain ⟨ao2, n2, c2, rfl⟩ : ∃ ao2 n2 c2, v2 = .slice ao2 n2 c2 := by rcases hown2.2 with ⟨hv, _⟩ | ⟨g, cap, cur, hv, _⟩ <;> exact ⟨_, _, _, hv⟩
      have hc32 := (eb_cell2 hE2).2.1
      have hf32 := eb_frozen hE2 3
      have hE3 := eb_words hE2 (.slice ao2 n2 c2)
      have hn3 : (Value.slice ao2 n2 c2).ownBlock ≠ some r := owns_not ho2 hE2
      have ho3 : Owns (w2.setCell ⟨r, 3, none⟩ (.slice ao2 n2 c2)) B (.slice ao2 n2 c2) (ws ++ [⟨buf.toArray⟩]) := World.ownsRow.kept (row := some r) ho2 (grown_st w2 r 3 _) (.inr hn3)
      have hB3 := hB2.setCell (p := ⟨r, 3, none⟩) hB (.slice ao2 n2 c2)
      clear hE1 ho1 hown2 hg2 hE2 ho2 hB2 hB1 hO1
      refine takeH (i := 11) (d := (some 16)) (v := ?_) rfl rfl (by kernel_rfl) (by kernel_rfl) (by kernel_rfl) (fun _ _ _ h => h) (by kernel_rfl) ?_ (by assumption) ?_
      rotate_left
      · (intro w hSw; (try dsimp only at hSw); go_simp; try with_reducible rfl)
      try simp only [Act.put, List.setIfInBounds_toArray, List.set_cons_succ, List.set_cons_zero]
      refine takeH (i := 12) (d := (some 17)) (v := ?_) rfl rfl (by kernel_rfl) (by kernel_rfl) (by kernel_rfl) (fun _ _ _ h => h) (by kernel_rfl) ?_ (by assumption) ?_
      rotate_left
      · (intro w hSw; (try dsimp only at hSw); go_simp; try with_reducible rfl)
      try simp only [Act.put, List.setIfInBounds_toArray, List.set_cons_succ, List.set_cons_zero]
      refine wpAnyH_ready (rs := [13]) (by kernel_rfl) (by simp) ?_
      refine AllReadyH.cons rfl (fun K hK => ?_) AllReadyH.nil
      go_simp
      refine hK.out _ _ ?_ (fun hHeld => ?_)
      · trivial
      clear hK K
      try simp only [Act.put, List.setIfInBounds_toArray, List.set_cons_succ, List.set_cons_zero]
      refine wpAnyH_done (by kernel_rfl) ?_ _
      clear hHeld
      generalize hW : w2.setCell ⟨r, 3, none⟩ (.slice ao2 n2 c2) = w3 at *
      go_wp2_with fail
      refine (resetE_any B r p buf x2 _ x4 x5 _ hE3).mono ?_
      rintro e w4 ⟨rfl, hE4, hB4, hO4⟩
      obtain ⟨_, bv3, hbk3, _⟩ := hE3
      have ho4 := owns_others ho3 hO4 hbk3
      have hE5 := eb_step hE4 (stp 76 r)
      have hf2 := eb_frozen hE4 2
      have hc2' := (eb_cell2 hE4).1
      have hn5 : (Value.slice ao2 n2 c2).ownBlock ≠ some r := owns_not ho4 hE4
      have ho5 := World.ownsRow.kept (row := some r) ho4 (grown_st w4 r 2 (stp 76 r)) (.inr hn5)
      have hB5 := (hB3.trans hB4).setCell (p := ⟨r, 2, none⟩) hB (stp 76 r)
      go_wp2_with fail
      go_ret
      exact ⟨_, rfl, hE5, ho5, hB5⟩
    · go_simp
      refine hK.out _ _ trivial (fun hHeld => ?_)
      clear hK K
      try simp only [Act.put, List.setIfInBounds_toArray, List.set_cons_succ, List.set_cons_zero]
      refine wpAnyH_ready (rs := [4]) (by kernel_rfl) (by simp) ?_
      refine AllReadyH.cons rfl (fun K hK => ?_) AllReadyH.nil
      go_simp
      refine hK.out _ _ ?_ (fun hHeld => ?_)
      · trivial
      clear hK K
      try simp only [Act.put, List.setIfInBounds_toArray, List.set_cons_succ, List.set_cons_zero]
      clear hc31 hc32'
      refine wpAnyH_ready (rs := [10]) (by kernel_rfl) (by simp) ?_
      refine AllReadyH.cons rfl (fun K hK => ?_) AllReadyH.nil
      refine step_append_S (d := some 15) (by kernel_rfl) rfl (.tmp 9) (.tmp 14) 23 rfl B 9 i0 (.string ByteArray.empty) 1 16 Tryd.underlying23 hi hz0 hz1 hz2 rfl (by decide) _ _ _ rfl (World.ownsRow.alloc ho1 _) ⟨w1.heap.size, 0, none⟩ 1 1 [.string ⟨buf.toArray⟩] rfl rfl (cell_str _ _ _) (by intro u hu; simp at hu; subst hu; rfl) (by unfold maxLen; omega) (by omega) (by simp; omega) ?_; intro v2 w2 hown2 hg2
      refine hK.out _ _ ?_ (fun hHeld => ?_)
      · trivial
      clear hK K
      (try simp only [Act.put]); (try simp only [List.setIfInBounds_toArray]); (try simp only [List.set_cons_succ]); (try simp only [List.set_cons_zero])
      have hE2 := eb_grown (eb_alloc hE1 (.cells #[.string ⟨buf.toArray⟩] 9)) (v := wv) (ws := ws) (World.ownsRow.alloc ho1 _) hg2
      have ho2 : Owns w2 B v2 (ws ++ [⟨buf.toArray⟩]) := by unfold Owns; rw [List.length_append, List.map_append]; exact hown2
      have hB2 : Below B w w2 := (hB1.alloc (by omega) _).grown hg2 (by simp; omega) (fun k hk => (World.ownsRow.lt ho1 k hk).1)
      obtain ⟨ao2, n2, c2, rfl⟩ : ∃ ao2 n2 c2, v2 = .slice ao2 n2 c2 := by rcases hown2.2 with ⟨hv, _⟩ | ⟨g, cap, cur, hv, _⟩ <;> exact ⟨_, _, _, hv⟩
      have hc32 := (eb_cell2 hE2).2.1
      have hf32 := eb_frozen hE2 3
      have hE3 := eb_words hE2 (.slice ao2 n2 c2)
      have hn3 : (Value.slice ao2 n2 c2).ownBlock ≠ some r := owns_not ho2 hE2
      have ho3 : Owns (w2.setCell ⟨r, 3, none⟩ (.slice ao2 n2 c2)) B (.slice ao2 n2 c2) (ws ++ [⟨buf.toArray⟩]) := World.ownsRow.kept (row := some r) ho2 (grown_st w2 r 3 _) (.inr hn3)
      have hB3 := hB2.setCell (p := ⟨r, 3, none⟩) hB (.slice ao2 n2 c2)
      clear hE1 ho1 hown2 hg2 hE2 ho2 hB2 hB1 hO1
      refine takeH (i := 11) (d := (some 16)) (v := ?_) rfl rfl (by kernel_rfl) (by kernel_rfl) (by kernel_rfl) (fun _ _ _ h => h) (by kernel_rfl) ?_ (by assumption) ?_
      rotate_left
      · (intro w hSw; (try dsimp only at hSw); go_simp; try with_reducible rfl)
      try simp only [Act.put, List.setIfInBounds_toArray, List.set_cons_succ, List.set_cons_zero]
      refine takeH (i := 12) (d := (some 17)) (v := ?_) rfl rfl (by kernel_rfl) (by kernel_rfl) (by kernel_rfl) (fun _ _ _ h => h) (by kernel_rfl) ?_ (by assumption) ?_
      rotate_left
      · (intro w hSw; (try dsimp only at hSw); go_simp; try with_reducible rfl)
      try simp only [Act.put, List.setIfInBounds_toArray, List.set_cons_succ, List.set_cons_zero]
      refine wpAnyH_ready (rs := [13]) (by kernel_rfl) (by simp) ?_
      refine AllReadyH.cons rfl (fun K hK => ?_) AllReadyH.nil
      go_simp
      refine hK.out _ _ ?_ (fun hHeld => ?_)
      · trivial
      clear hK K
      try simp only [Act.put, List.setIfInBounds_toArray, List.set_cons_succ, List.set_cons_zero]
      refine wpAnyH_done (by kernel_rfl) ?_ _
      clear hHeld
      generalize hW : w2.setCell ⟨r, 3, none⟩ (.slice ao2 n2 c2) = w3 at *
      go_wp2_with fail
      refine (resetE_any B r p buf x2 _ x4 x5 _ hE3).mono ?_
      rintro e w4 ⟨rfl, hE4, hB4, hO4⟩
      obtain ⟨_, bv3, hbk3, _⟩ := hE3
      have ho4 := owns_others ho3 hO4 hbk3
      have hE5 := eb_step hE4 (stp 76 r)
      have hf2 := eb_frozen hE4 2
      have hc2' := (eb_cell2 hE4).1
      have hn5 : (Value.slice ao2 n2 c2).ownBlock ≠ some r := owns_not ho4 hE4
      have ho5 := World.ownsRow.kept (row := some r) ho4 (grown_st w4 r 2 (stp 76 r)) (.inr hn5)
      have hB5 := (hB3.trans hB4).setCell (p := ⟨r, 2, none⟩) hB (stp 76 r)
      go_wp2_with fail
      go_ret
      exact ⟨_, rfl, hE5, ho5, hB5⟩
end Go.Proofs.YtfoflnolmlgnfaaDoor
