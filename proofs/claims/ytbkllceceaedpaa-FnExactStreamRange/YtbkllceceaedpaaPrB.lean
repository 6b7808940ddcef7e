/- The laws' own helpers over slices of Pair, the loops. -/
import Derived.Test.YtbkllceceaedpaaPrA
namespace Go.Proofs.Ytbkllceceaedpaa
open Go.RowKit

def prFit (l : List (ByteArray × ByteArray)) : Prop := ∀ x ∈ l, x.1.size ≤ maxLen ∧ x.2.size ≤ maxLen

set_option maxHeartbeats 1000000 in
theorem szPairS_any (v : Value) (l : List (ByteArray × ByteArray)) (left : Int) (w : World) (hr : PrReads w v l) (hl : 0 ≤ left) (hl2 : left ≤ 1048576) (hs : prFit l) (hlen : l.length ≤ maxLen) :
    Calls Try.prog 87 #[v, .int .i64 left] w fun e w' => e = .returned (.int .i64 (szW prW l left)) ∧ Below w.heap.size w w' := by
  unfold maxLen at hlen
  obtain ⟨ao, cap, rfl⟩ := readsR_shape hr
  by_cases hneg : left - (l.length : Int) < 0
  · have HZ : Hid (szW prW l left = -1) := szW_neg prW_pos (k := 0) (Nat.zero_le _) (by simp [szWTo]; omega)
    go_enter Try.func87, Try.ntmps87
    go_wp2
    go_ret
    exact ⟨ret_int' HZ.out.symm, Below.refl _ _⟩
  · have hge : 0 ≤ left - (l.length : Int) := by omega
    go_enter Try.func87, Try.ntmps87
    go_wp2_with fail
    go_loopw [1, 5] (fun c i wr => ∃ k : Nat, k ≤ l.length ∧ i = .int .i64 k ∧ 0 ≤ szWTo prW l left k ∧ szWTo prW l left k ≤ left ∧ c = .int .i64 (szWTo prW l left k) ∧ Below w.heap.size w wr) (fun _ i _ => l.length - (intOf i).toNat)
    case atStart => exact ⟨0, Nat.zero_le _, rfl, by simp [szWTo]; omega, by simp [szWTo]; omega, by simp [szWTo], Below.refl _ _⟩
    case round =>
      obtain ⟨k, hk, rfl, hp, hp2, rfl, hB⟩ := hrel
      by_cases hlt : k < l.length
      · obtain ⟨b, off, rfl, hb, hnc, hcm, hc⟩ := pr_some hr (by omega)
        have hcell := pr_cell_kept (pr_cells hc hlt) hB hb
        have hc0 := hcell.1
        have hc1 := hcell.2
        have hfit := hs _ (prAt_mem hlt)
        have hk' : (k : Int) < (l.length : Int) := by omega
        have HS : Hid (szWTo prW l left (k + 1) = szWTo prW l left k - prW (prAt l k)) := szWTo_succ (prAt_some hlt)
        clear hc hcell hnc hcm
        go_wp2_with fail
        refine (szPair_any (prAt l k).1 (prAt l k).2 _ _ hp (by omega) hfit.1 hfit.2).mono ?_
        rintro e w3 ⟨rfl, hb3⟩
        have hB3 : Below w.heap.size w w3 := hB.trans (hb3.mono hB.size)
        have HC : (szWTo prW l left k - prW (prAt l k) < 0 ∧ szOne prW ((prAt l k).1, (prAt l k).2) (szWTo prW l left k) = -1) ∨ (0 ≤ szWTo prW l left k - prW (prAt l k) ∧ szOne prW ((prAt l k).1, (prAt l k).2) (szWTo prW l left k) = szWTo prW l left k - prW (prAt l k)) := szOne_cases
        rcases HC with ⟨h1, h2⟩ | ⟨h1, h2⟩
        · rw [h2]
          clear h2 hb3 hB
          go_wp2_with fail
          go_ret
          exact ⟨ret_int' (szW_neg prW_pos (k := k + 1) hlt (by rw [HS.out]; exact h1)).symm, hB3⟩
        · rw [h2]
          have hw := prW_pos (prAt l k)
          have h3 : ¬ szWTo prW l left k - prW (prAt l k) < 0 := by omega
          clear h2 hb3 hB
          go_wp2_with fail
          go_roundw
          case rel => exact ⟨k + 1, hlt, by go_num, by rw [HS.out]; exact h1, by rw [HS.out]; omega, by rw [HS.out], hB3⟩
          case measure => simp [intOf]; omega
      · go_wp2_with fail
        go_ret
        exact ⟨ret_int' (szW_end (by omega) hp).symm, hB⟩

set_option maxHeartbeats 1000000 in
theorem toPair_any (s t : ByteArray) (w : World) :
    Calls Try.prog 104 #[.agg #[.string s, .string t]] w fun e w' => e = .returned (.agg #[.string s, .string t]) ∧ Below w.heap.size w w' := by
  go_enter Try.func104, Try.ntmps104
  go_wp2
  refine bodyPost_ret (results_cell_row rfl _ _ (w.heap.size + 1) 107 _ (0, 0) _ rfl (heap_mid _ _ _ _) Try.underlying107 rfl (by kernel_rfl)) rfl ?_
  exact ⟨rfl, (((Below.refl _ w).alloc (Nat.le_refl _) _).alloc (by simp) _).alloc (by simp; omega) _⟩

/-- the first k rows, the rest nothing -/
def prPart (l : List (ByteArray × ByteArray)) (k : Nat) : List (ByteArray × ByteArray) := l.take k ++ List.replicate (l.length - k) prZ
theorem prPart_len {l : List (ByteArray × ByteArray)} {k : Nat} (h : k ≤ l.length) : (prPart l k).length = l.length := by simp [prPart]; omega
theorem prPart_at {l : List (ByteArray × ByteArray)} {k : Nat} (h : k < l.length) : (prPart l k)[k]? = some prZ := by
  unfold prPart; rw [List.getElem?_append_right (by simp; omega), List.getElem?_replicate, if_pos (by simp; omega)]
theorem prPart_set {l : List (ByteArray × ByteArray)} {k : Nat} (h : k < l.length) : (prPart l k).set k (prAt l k) = prPart l (k + 1) := by
  unfold prPart
  have e : l.length - k = (l.length - (k + 1)) + 1 := by omega
  rw [List.set_append_right _ _ (by simp; omega), e, List.replicate_succ]
  have e2 : k - (l.take k).length = 0 := by simp; omega
  rw [e2, List.set_cons_zero, List.take_succ_eq_append_getElem h, prAt_get h, List.append_assoc]
  rfl
theorem prPart_all (l : List (ByteArray × ByteArray)) : prPart l l.length = l := by simp [prPart]
theorem prPart_none (l : List (ByteArray × ByteArray)) : prPart l 0 = List.replicate l.length prZ := by simp [prPart]
theorem prInfo : (Try.prog.info? 107).map (fun i => (i.zero, i.size, i.bytes)) = some (some (.agg #[.string ByteArray.empty, .string ByteArray.empty]), 2, 32) := by kernel_rfl

set_option maxHeartbeats 2000000 in
theorem toPairS_any (v : Value) (l : List (ByteArray × ByteArray)) (w : World) (hr : PrReads w v l) (hlen : l.length ≤ 1048576) :
    Calls Try.prog 89 #[v] w fun e w' => ∃ v', e = .returned v' ∧ PrOwns w' w.heap.size v' l ∧ Below w.heap.size w w' := by
  obtain ⟨i0, hi, hz0, hz1, hz2⟩ := info_parts prInfo
  have hbt : i0.bytes * l.length ≤ 281474976710656 := by rw [hz2]; omega
  have hml : l.length ≤ maxLen := by unfold maxLen; omega
  obtain ⟨ao, cap, rfl⟩ := readsR_shape hr
  go_enter Try.func89, Try.ntmps89
  go_wp2_with (at_make; refine wpList_make_full _ rfl _ _ 57 rfl w.heap.size 107 i0 _ 2 Try.underlying57 hi hz0 hz1 _ _ _ _ l.length rfl rfl rfl rfl hbt hml (Nat.le_refl _) ?_)
  intro w1 hown hgrow
  have hB1 : Below w.heap.size w w1 := (Below.refl _ _).grown hgrow (Nat.le_refl _) (fun k hk => by cases hk)
  have hown1 : PrOwns w1 w.heap.size (.slice (some ⟨w.heap.size, 0, none⟩) l.length l.length) (prPart l 0) := by
    unfold PrOwns OwnsR; rw [prPart_len (Nat.zero_le _), prPart_none, ← made_rows prC_len prZ l.length]; exact hown
  clear hown hgrow hbt hml hi hz0 hz1 hz2
  go_wp2_with fail
  go_loopw [4] (fun i wr => ∃ k : Nat, k ≤ l.length ∧ i = .int .i64 k ∧ PrOwns wr w.heap.size (.slice (some ⟨w.heap.size, 0, none⟩) l.length l.length) (prPart l k) ∧ Below w.heap.size w wr) (fun i _ => l.length - (intOf i).toNat)
  case atStart => exact ⟨0, Nat.zero_le _, rfl, hown1, hB1⟩
  case round =>
    obtain ⟨k, hk, rfl, ho, hB⟩ := hrel
    clear hown1 hB1
    by_cases hlt : k < l.length
    · obtain ⟨b, off, rfl, hb, hnc, hcm, hc⟩ := pr_some hr (by omega)
      have hcell := pr_cell_kept (pr_cells hc hlt) hB hb
      have hc0 := hcell.1
      have hc1 := hcell.2
      have hk' : (k : Int) < (l.length : Int) := by omega
      have HL : Hid ((prPart l k).length = l.length) := prPart_len hk
      clear hc hcell hnc hcm
      go_wp2_with fail
      refine (toPair_any (prAt l k).1 (prAt l k).2 _).mono ?_
      rintro e w3 ⟨rfl, hb3⟩
      have hB3 : Below w.heap.size w w3 := hB.trans (hb3.mono hB.size)
      have ho3 := ownsR_kept ho hb3
      rw [← HL.out] at ho3
      have hst := ownsR_store2 prC_len ho3 k prZ (prAt l k) (.string (prAt l k).1) (.string (prAt l k).2) (prPart_at hlt) rfl
      rw [prPart_set hlt, HL.out] at hst
      have hf0 := World.ownsRow.frozenAt ho3 (k * 2)
      have hf1 := World.ownsRow.frozenAt ho3 (k * 2 + 1)
      have hd0 : w3.cell? ⟨w.heap.size, k * 2, none⟩ = _ := cellR prC_len ho3 (prPart_at hlt) 0 _ rfl
      have hd1 : w3.cell? ⟨w.heap.size, k * 2 + 1, none⟩ = _ := cellR prC_len ho3 (prPart_at hlt) 1 _ rfl
      have HO : Hid _ := hst
      clear hb3 hB ho ho3 hst
      go_wp2_with fail
      go_roundw
      case rel => exact ⟨k + 1, hlt, by go_num, HO.out.1, (hB3.setCell (Nat.le_refl _) _).setCell (Nat.le_refl _) _⟩
      case measure => simp [intOf]; omega
    · obtain rfl : k = l.length := by omega
      rw [prPart_all] at ho
      go_wp2_with fail
      go_ret
      exact ⟨_, rfl, ho, hB⟩

def prEqv (x y : ByteArray × ByteArray) : Bool := decide (x = y)
set_option maxHeartbeats 1000000 in
theorem eqPair_any (s n s' n' : ByteArray) (w : World) :
    Calls Try.prog 97 #[.agg #[.string s, .string n], .agg #[.string s', .string n']] w fun e w' => e = .returned (.bool (prEqv (s, n) (s', n'))) ∧ Below w.heap.size w w' := by
  have hB : ∀ A B, Below w.heap.size w ((w.alloc A).alloc B) := fun A B => ((Below.refl _ w).alloc (Nat.le_refl _) A).alloc (by simp) B
  by_cases h1 : s = s'
  · subst h1
    by_cases h2 : n = n'
    · subst h2
      have hn : (!n.toList == n.toList) = false := by simp
      have hs : (!s.toList == s.toList) = false := by simp
      go_enter Try.func97, Try.ntmps97
      go_wp2_with fail
      go_ret
      exact ⟨ret_bool (by simp [prEqv]), hB _ _⟩
    · have HN : Hid (prEqv (s, n) (s, n') = false) := by show _ = _; simp [prEqv, h2]
      have hn : (!n.toList == n'.toList) = true := by
        cases he : (n.toList == n'.toList) with
        | false => rfl
        | true => exact absurd (toList_eq (by simpa using he)) h2
      have hs : (!s.toList == s.toList) = false := by simp
      clear h2
      go_enter Try.func97, Try.ntmps97
      go_wp2_with fail
      go_ret
      exact ⟨ret_bool HN.out.symm, hB _ _⟩
  · have HN : Hid (prEqv (s, n) (s', n') = false) := by show _ = _; simp [prEqv, h1]
    have hs : (!s.toList == s'.toList) = true := by
      cases he : (s.toList == s'.toList) with
      | false => rfl
      | true => exact absurd (toList_eq (by simpa using he)) h1
    clear h1
    go_enter Try.func97, Try.ntmps97
    go_wp2_with fail
    go_ret
    exact ⟨ret_bool HN.out.symm, hB _ _⟩

theorem pr_held {wr w2 w3 : World} {b o b' o' : Nat} {x y x' y' : Value} (hb : b < wr.heap.size) (hb' : b' < wr.heap.size) (h3 : Below w2.heap.size w2 w3)
    (h : w2.cell? ⟨b, o, none⟩ = some x ∧ w2.cell? ⟨b, o + 1, none⟩ = some y ∧ w2.cell? ⟨b', o', none⟩ = some x' ∧ w2.cell? ⟨b', o' + 1, none⟩ = some y' ∧ Below wr.heap.size wr w2) :
    w3.cell? ⟨b, o, none⟩ = some x ∧ w3.cell? ⟨b, o + 1, none⟩ = some y ∧ w3.cell? ⟨b', o', none⟩ = some x' ∧ w3.cell? ⟨b', o' + 1, none⟩ = some y' ∧ Below wr.heap.size wr w3 := by
  obtain ⟨h0, h1, h2, h4, hB⟩ := h
  have hs := hB.size
  exact ⟨(h3.cell (p := ⟨b, o, none⟩) (by show b < _; omega)).trans h0, (h3.cell (p := ⟨b, o + 1, none⟩) (by show b < _; omega)).trans h1, (h3.cell (p := ⟨b', o', none⟩) (by show b' < _; omega)).trans h2, (h3.cell (p := ⟨b', o' + 1, none⟩) (by show b' < _; omega)).trans h4, hB.trans (h3.mono hs)⟩
def prAlike (a b : List (ByteArray × ByteArray)) (k : Nat) : Prop := ∀ j, j < k → prAt a j = prAt b j
theorem prAlike_all {a b : List (ByteArray × ByteArray)} (h : a.length = b.length) (hk : prAlike a b a.length) : a = b := by
  apply List.ext_getElem h
  intro i h1 h2
  have := hk i h1
  rwa [prAt_get h1, prAt_get h2] at this
theorem prAlike_not {a b : List (ByteArray × ByteArray)} {k : Nat} (h : prAt a k ≠ prAt b k) : decide (a = b) = false := by
  simp only [decide_eq_false_iff_not]; intro e; rw [e] at h; exact h rfl

set_option maxHeartbeats 2000000 in
theorem eqPairS_any (v u : Value) (l m : List (ByteArray × ByteArray)) (w : World) (hr : PrReads w v l) (hq : PrReads w u m) (hlen : l.length ≤ 1048576) (hlem : m.length ≤ 1048576) :
    Calls Try.prog 81 #[v, u] w fun e w' => e = .returned (.bool (decide (l = m))) ∧ Below w.heap.size w w' := by
  obtain ⟨ao, cap, rfl⟩ := readsR_shape hr
  obtain ⟨ao2, cap2, rfl⟩ := readsR_shape hq
  by_cases hne : l.length = m.length
  · have hf : ((l.length : Int) != (m.length : Int)) = false := by simp; omega
    have HNE : Hid (l.length = m.length) := hne
    have hlm : (l.length : Int) ≤ (m.length : Int) := by omega
    clear hne
    go_enter Try.func81, Try.ntmps81
    go_wp2_with fail
    go_loopw [5] (fun i wr => ∃ k : Nat, k ≤ l.length ∧ i = .int .i64 k ∧ prAlike l m k ∧ Below w.heap.size w wr) (fun i _ => l.length - (intOf i).toNat)
    case atStart => exact ⟨0, Nat.zero_le _, rfl, fun j hj => by omega, Below.refl _ _⟩
    case round =>
      obtain ⟨k, hk, rfl, hal, hB⟩ := hrel
      by_cases hlt : k < l.length
      · have hlt2 : k < m.length := by omega
        obtain ⟨b, off, rfl, hb, _, _, hc⟩ := pr_some hr (by omega)
        obtain ⟨b2, off2, rfl, hb2, _, _, hc2⟩ := pr_some hq (by omega)
        have hcl := pr_cell_kept (pr_cells hc hlt) hB hb
        have hcm := pr_cell_kept (pr_cells hc2 hlt2) hB hb2
        have hk1 : (k : Int) < (l.length : Int) := by omega
        have hk2 : (k : Int) < (m.length : Int) := by omega
        have hsz := hB.size
        have hbr : b < wr.heap.size := by omega
        have hbr2 : b2 < wr.heap.size := by omega
        clear hc hc2
        go_wp2_with fail
        go_region_held3 (fun w' => w'.cell? ⟨b, off + k * 2, none⟩ = some (.string (prAt l k).1) ∧ w'.cell? ⟨b, off + k * 2 + 1, none⟩ = some (.string (prAt l k).2) ∧ w'.cell? ⟨b2, off2 + k * 2, none⟩ = some (.string (prAt m k).1) ∧ w'.cell? ⟨b2, off2 + k * 2 + 1, none⟩ = some (.string (prAt m k).2) ∧ Below wr.heap.size wr w') (first | exact ⟨hcl.1, hcl.2, hcm.1, hcm.2, (Below.refl _ _).drew⟩ | assumption | go_keep) (first
          | (go_at_call 97; refine (eqPair_any (prAt l k).1 (prAt l k).2 (prAt m k).1 (prAt m k).2 _).mono ?_; rintro e w3 ⟨rfl, hb3⟩; have hk3 := pr_held hbr hbr2 hb3 ‹_›))
        have hB3 : Below w.heap.size w w3 := hB.trans (hk3.2.2.2.2.mono hB.size)
        clear hk3 hb3 hB hcl hcm
        by_cases he : prAt l k = prAt m k
        · have hd : prEqv ((prAt l k).1, (prAt l k).2) ((prAt m k).1, (prAt m k).2) = true := decide_eq_true he
          rw [hd]
          have HE : Hid (prAt l k = prAt m k) := he
          clear hd he
          go_wp2_with fail
          go_roundw
          case rel => exact ⟨k + 1, hlt, by go_num, fun j hj => by
            by_cases hj' : j = k
            · rw [hj']; exact HE.out
            · exact hal j (by omega), hB3⟩
          case measure => simp [intOf]; omega
        · have hd : prEqv ((prAt l k).1, (prAt l k).2) ((prAt m k).1, (prAt m k).2) = false := decide_eq_false he
          rw [hd]
          have HD : Hid (decide (l = m) = false) := prAlike_not he
          clear hd he
          go_wp2_with fail
          go_ret
          exact ⟨ret_bool HD.out.symm, hB3⟩
      · obtain rfl : k = l.length := by omega
        go_wp2_with fail
        go_ret
        exact ⟨ret_bool (by rw [eq_comm, decide_eq_true_iff]; exact prAlike_all HNE.out hal), hB⟩
  · have hf : ((l.length : Int) != (m.length : Int)) = true := by simp; omega
    have HF : Hid (decide (l = m) = false) := by
      show _ = _
      simp only [decide_eq_false_iff_not]; intro e; rw [e] at hne; exact hne rfl
    clear hne
    go_enter Try.func81, Try.ntmps81
    go_wp2_with fail
    go_ret
    exact ⟨ret_bool HF.out.symm, Below.refl _ _⟩
end Go.Proofs.Ytbkllceceaedpaa
