/- ListDrop, the program's and the model's. -/
import Derived.Test.YtjgnfneondlhhaaPushI
import Derived.Test.YtjgnfneondlhhaaPlace
namespace Go.Proofs.Ytjgnfneondlhhaa
open Go.RowKit

def stepD (t : ByteArray) (lim : Nat) (st : List ByteArray × Nat) (s : ByteArray) : List ByteArray × Nat := if s = t ∧ st.2 < lim then (st.1, st.2 + 1) else (st.1 ++ [s], st.2)
def runD (t : ByteArray) (lim : Nat) (l : List ByteArray) : List ByteArray × Nat := l.foldl (stepD t lim) ([], 0)
theorem runD_snoc (t : ByteArray) (lim : Nat) (l : List ByteArray) (s : ByteArray) : runD t lim (l ++ [s]) = stepD t lim (runD t lim l) s := by simp [runD]
theorem runD_bd (t : ByteArray) (lim : Nat) (l : List ByteArray) : (runD t lim l).1.length + (runD t lim l).2 = l.length := by
  have : ∀ (l : List ByteArray) (st : List ByteArray × Nat), (l.foldl (stepD t lim) st).1.length + (l.foldl (stepD t lim) st).2 = st.1.length + st.2 + l.length := by
    intro l
    induction l with
    | nil => intro st; simp
    | cons s l ih =>
      intro st
      rw [List.foldl_cons, ih]
      unfold stepD; split <;> simp <;> omega
  have h := this l ([], 0)
  simpa [runD] using h

def limD (l : List ByteArray) (c : Int) : Nat := if c = 0 then l.length else c.natAbs
/-- texts in the order in which they are asked, and back -/
def turn (front : Bool) (l : List ByteArray) : List ByteArray := if front = true then l else l.reverse
def frontD (c : Int) : Bool := decide (0 ≤ c)
def dropB (l : List ByteArray) (c : Int) : Bool := okB l && placeB c
def runC (l : List ByteArray) (c : Int) (t : ByteArray) : List ByteArray × Nat := runD t (limD l c) (turn (frontD c) l)
def dropR (l : List ByteArray) (c : Int) (t : ByteArray) : List ByteArray := if dropB l c = true then turn (frontD c) (runC l c t).1 else []
def dropN (l : List ByteArray) (c : Int) (t : ByteArray) : Int := if dropB l c = true then ((runC l c t).2 : Int) else 0
theorem turn_len (front : Bool) (l : List ByteArray) : (turn front l).length = l.length := by cases front <;> simp [turn]
theorem turn_turn (front : Bool) (l : List ByteArray) : turn front (turn front l) = l := by cases front <;> simp [turn]

theorem pop_ring (b f n : Nat) (sl : List ByteArray) (front : Bool) (w : World) (h : RingAt w b sl f n) (hn : 0 < n) :
    Calls Try.prog 44 #[.pointer (some ⟨b, 0, none⟩), .bool front] w fun e w' => e = .returned (.string (popT (ringL sl f n) front)) ∧ (∃ f', RingAt w' b sl f' (n - 1) ∧ ringL sl f' (n - 1) = popL (ringL sl f n) front) ∧ w.grownBy w' (some b) := by
  refine (pop_any b f n sl front w h hn).mono fun e w' ⟨he, hR, hg⟩ => ⟨?_, ⟨_, hR, ?_⟩, hg⟩
  · rw [he]
    cases front
    · show _ = Ending.returned (.string (at_ (ringL sl f n) ((ringL sl f n).length - 1)))
      rw [ringL_len, ringL_at (by omega)]
      unfold popAt; rw [if_neg (by simp), show (f + n - 1) % 16 = (f + (n - 1)) % 16 by congr 1; omega]
    · show _ = Ending.returned (.string (at_ (ringL sl f n) 0))
      rw [ringL_at hn]
      unfold popAt; rw [if_pos rfl, Nat.add_zero, Nat.mod_eq_of_lt h.2.1]
  · cases front
    · exact ringL_popBack sl f n
    · exact ringL_popFront sl f n
theorem ring_other {w w' : World} {b b' f n : Nat} {sl : List ByteArray} (h : RingAt w b sl f n) (hg : w.grownBy w' (some b')) (hne : b ≠ b') : RingAt w' b sl f n :=
  ⟨h.1, h.2.1, h.2.2.1, (hg.block b (ring_lt h) (by simpa using hne)).trans h.2.2.2⟩
theorem pop_turn {front : Bool} {l : List ByteArray} (h : 0 < l.length) : popT (turn front l) front = at_ l 0 ∧ popL (turn front l) front = turn front l.tail := by
  cases l with
  | nil => simp at h
  | cons s l =>
    cases front
    · constructor
      · show at_ (s :: l).reverse ((s :: l).reverse.length - 1) = s
        rw [at_lt (by simp)]; simp
      · show (s :: l).reverse.dropLast = l.reverse
        simp
    · exact ⟨rfl, rfl⟩
theorem push_turn (front : Bool) (l : List ByteArray) (s : ByteArray) : pushed (turn front l) (!front) [s] = turn front (l ++ [s]) := by
  cases front <;> simp [pushed, turn]
theorem drop_at {l : List ByteArray} {k : Nat} : at_ (l.drop k) 0 = at_ l k := by
  unfold at_; rw [List.getD_eq_getElem?_getD, List.getD_eq_getElem?_getD, List.getElem?_drop, Nat.add_zero]

def cellN (w : World) (b : Nat) : Nat := ((w.cell? ⟨b, 17, none⟩).map fun v => (intOf v).toNat).getD 0
theorem cellN_ring {w : World} {b f n : Nat} {sl : List ByteArray} (h : RingAt w b sl f n) : cellN w b = n := by
  unfold cellN; rw [ring_size h]; simp [intOf]
theorem stepD_hit {t : ByteArray} {lim : Nat} {st : List ByteArray × Nat} {s : ByteArray} (h : s = t) (h2 : st.2 < lim) : stepD t lim st s = (st.1, st.2 + 1) := if_pos ⟨h, h2⟩
theorem stepD_miss {t : ByteArray} {lim : Nat} {st : List ByteArray × Nat} {s : ByteArray} (h : ¬ (s = t ∧ st.2 < lim)) : stepD t lim st s = (st.1 ++ [s], st.2) := if_neg h

/-- what holds at each round: k texts are asked, those that are kept stand in the second ring -/
def DropRel (w : World) (l : List ByteArray) (t : ByteArray) (P sl : List ByteArray) (B : Nat) (F : Bool) (m : Nat) (g : Value) (wr : World) : Prop :=
  ∃ (k : Nat) (f' : Nat) (slk : List ByteArray) (fk : Nat), k ≤ l.length ∧ g = .int .i64 ((runD t m (P.take k)).2 : Nat) ∧ RingAt wr B sl f' (l.length - k) ∧ ringL sl f' (l.length - k) = turn F (P.drop k) ∧
    RingAt wr (B + 1) slk fk (runD t m (P.take k)).1.length ∧ ringL slk fk (runD t m (P.take k)).1.length = turn F (runD t m (P.take k)).1 ∧ Below w.heap.size w wr

set_option maxHeartbeats 8000000 in
theorem implDrop_any (v : Value) (l : List ByteArray) (c : Int) (t : ByteArray) (w : World) (hr : Reads w v l) (hlen : l.length ≤ 1048576) :
    Calls Try.prog 33 #[v, .int .i64 c, .string t] w fun e w' => ∃ u, e = .returned (.tuple #[u, .int .i64 (dropN l c t)]) ∧ Owns w' w.heap.size u (dropR l c t) ∧ Below w.heap.size w w' := by
  cases hok : okB l with
  | false =>
    have HN : Hid (dropN l c t = 0) := by show _ = _; unfold dropN dropB; rw [hok]; rfl
    have HR : Hid (dropR l c t = []) := by show _ = _; unfold dropR dropB; rw [hok]; rfl
    go_enter Try.func33, Try.ntmps33
    go_wp2_with fail
    refine (ringOf_bad v l _ hr hlen hok).mono ?_
    rintro e w1 ⟨rfl, hB⟩
    have hs1 := hB.size
    have hi := infoRs (f := 0) (n := 0) (sl := none16) rfl
    go_wp2_with (refine wpList_store_row rfl 51 (.tmp 8) (.tmp 18) rfl w1.heap.size (ringArr none16 0 0) rfl rfl 51 (ringArr none16 0 0) (heap_alloc_new _ _) hi rfl ringArr_one ?_; show wpList _ _ _ _ _ (stored w1 none16 0 0))
    go_ret2
    exact ⟨_, by rw [HN.out]; rfl, by rw [HR.out]; exact owns_nil _ _, below_stored hB hs1 _ _ _⟩
  | true =>
    have hn : l.length ≤ 16 := by unfold okB at hok; simp at hok; exact hok.1
    have HOK : Hid (okB l = true) := hok
    go_enter Try.func33, Try.ntmps33
    go_wp2_with fail
    refine (ringOf_ok v l _ hr hok).mono ?_
    rintro e w1 ⟨sl, rfl, hl, hL, hB⟩
    have hs1 := hB.size
    have hi := infoRs (f := 0) (n := l.length) hl
    have hR := ring_stored w1 hl (f := 0) (n := l.length) (by omega) hn
    have hc := ring_size hR
    have hB2 := below_stored hB hs1 sl 0 l.length
    have HL : Hid (ringL sl 0 l.length = l) := hL
    have hs2 := stored_size w1 sl 0 l.length
    clear hL hr hok hB
    generalize hW : stored w1 sl 0 l.length = w2 at *
    have HWW : Hid (stored w1 sl 0 l.length = w2) := hW
    clear hW
    cases hp : placeB c with
    | false =>
      have HN : Hid (dropN l c t = 0) := by show _ = _; unfold dropN dropB; rw [HOK.out, hp]; rfl
      have HR : Hid (dropR l c t = []) := by show _ = _; unfold dropR dropB; rw [HOK.out, hp]; rfl
      go_wp2_with (first | (refine wpList_store_row rfl 51 (.tmp 8) (.tmp 18) rfl w1.heap.size (ringArr sl 0 l.length) rfl rfl 51 (ringArr none16 0 0) (heap_alloc_new _ _) hi (sizeRs hl) ringArr_one ?_; show wpList _ _ _ _ _ (stored w1 sl 0 l.length); rw [HWW.out]) | (go_at_call 49; refine (placeOk_any _ _).mono ?_; rintro e w' ⟨rfl, rfl⟩))
      go_ret2
      exact ⟨_, by rw [HN.out]; rfl, by rw [HR.out]; exact owns_nil _ _, hB2⟩
    | true =>
      obtain ⟨bp1, bp2⟩ := place_bd hp
      have HD : Hid (dropB l c = true) := by show _ = _; unfold dropB; rw [HOK.out, hp]; rfl
      obtain ⟨F, m, HF, HM, hdec, hm16⟩ : ∃ (F : Bool) (m : Nat), Hid (frontD c = F) ∧ Hid (limD l c = m) ∧ ((F = false ∧ c = -(m : Int) ∧ m ≠ 0) ∨ (F = true ∧ c = 0 ∧ m = l.length) ∨ (F = true ∧ c = (m : Int) ∧ m ≠ 0)) ∧ m ≤ 1000000000 := by
        rcases (show c < 0 ∨ c = 0 ∨ 0 < c by omega) with h | h | h
        · exact ⟨false, c.natAbs, by show _ = _; unfold frontD; simp; omega, by show _ = _; unfold limD; rw [if_neg (by omega)], .inl ⟨rfl, by omega, by omega⟩, by omega⟩
        · exact ⟨true, l.length, by show _ = _; unfold frontD; simp; omega, by show _ = _; unfold limD; rw [if_pos h], .inr (.inl ⟨rfl, h, rfl⟩), by omega⟩
        · exact ⟨true, c.natAbs, by show _ = _; unfold frontD; simp; omega, by show _ = _; unfold limD; rw [if_neg (by omega)], .inr (.inr ⟨rfl, by omega, by omega⟩), by omega⟩
      have HT : Hid (ringL sl 0 l.length = turn F (turn F l)) := by show _ = _; rw [HL.out, turn_turn]
      have hRk := ring_kept hR ((Below.refl _ w2).alloc (Nat.le_refl _) (.cells (ringArr none16 0 0) 51))
      have hKk : RingAt (w2.alloc (.cells (ringArr none16 0 0) 51)) (w1.heap.size + 1) none16 0 0 := by rw [← hs2]; exact ring_new w2
      have hBk := hB2.alloc (by omega) (.cells (ringArr none16 0 0) 51)
      have hzero : ringL none16 0 0 = turn F (runD t m ((turn F l).take 0)).1 := by cases F <;> rfl
      have hall : ringL sl 0 (l.length - 0) = turn F ((turn F l).drop 0) := by rw [List.drop_zero, turn_turn]; exact HL.out
      generalize hP : turn F l = P at *
      have hPl : P.length = l.length := by rw [← hP, turn_len]
      have HP : Hid (turn F l = P) := hP
      have HPL : Hid (P.length = l.length) := hPl
      clear hP hPl hR hB2 HT
      rcases hdec with ⟨rfl, rfl, hm0⟩ | ⟨rfl, rfl, rfl⟩ | ⟨rfl, rfl, hm0⟩
      · have hc0 : ((-(m : Int)) == 0) = false := beq_eq_false_iff_ne.2 (by omega)
        go_wp2_with (first | (refine wpList_store_row rfl 51 (.tmp 8) (.tmp 18) rfl w1.heap.size (ringArr sl 0 l.length) rfl rfl 51 (ringArr none16 0 0) (heap_alloc_new _ _) hi (sizeRs hl) ringArr_one ?_; show wpList _ _ _ _ _ (stored w1 sl 0 l.length); rw [HWW.out]) | (go_at_call 49; refine (placeOk_any _ _).mono ?_; rintro e w' ⟨rfl, rfl⟩))
        go_loopw [13, 14] (fun g _ wr => DropRel w l t P sl w1.heap.size false m g wr) (fun _ _ wr => cellN wr w1.heap.size)
        case atStart => exact ⟨0, 0, none16, 0, Nat.zero_le _, rfl, hRk, hall, hKk, hzero, hBk⟩
        case round =>
          obtain ⟨k, f', slk, fk, hk, rfl, hR, hLr, hK, hLk, hB⟩ := hrel
          have hcs := ring_size hR
          have hszr := hB.size
          have hrb := runD_bd t m (P.take k)
          have hN := cellN_ring hR
          have HCN : Hid (cellN wr w1.heap.size = l.length - k) := hN
          clear hN hRk hKk hBk hall hzero hc
          by_cases hlt : k < l.length
          · have hpos : (0 : Int) < ((l.length - k : Nat) : Int) := by omega
            have hkP : k < P.length := by rw [HPL.out]; exact hlt
            have hpt := pop_turn (front := false) (l := P.drop k) (by simp; omega)
            have HSN : Hid (runD t m (P.take (k + 1)) = stepD t m (runD t m (P.take k)) (at_ P k)) := by
              show _ = _; rw [List.take_succ_eq_append_getElem hkP, at_lt hkP]; exact runD_snoc _ _ _ _
            rw [drop_at, List.tail_drop] at hpt
            go_wp2_with fail
            refine (pop_ring w1.heap.size f' (l.length - k) sl false _ hR (by omega)).mono ?_
            rw [hLr, hpt.1, hpt.2]
            rintro e w3 ⟨rfl, ⟨f3, hR3, hL3⟩, hg3⟩
            have hK3 := ring_other hK hg3 (by omega)
            have hB3 : Below w.heap.size w w3 := hB.grown hg3 hszr (fun j hj => by simp at hj; omega)
            have hN3 := cellN_ring hR3
            have HN3 : Hid (cellN w3 w1.heap.size = l.length - k - 1) := hN3
            have hsz3 := hB3.size
            have hlen1 : (P.take k).length = k := by simp; omega
            clear hR hK hg3 hpt hcs hB hLr hN3
            rw [show l.length - k - 1 = l.length - (k + 1) by omega] at hR3 hL3
            by_cases hst : at_ P k = t ∧ (runD t m (P.take k)).2 < m
            · have HS2 : Hid (runD t m (P.take (k + 1)) = ((runD t m (P.take k)).1, (runD t m (P.take k)).2 + 1)) := by show _ = _; rw [HSN.out]; exact stepD_hit hst.1 hst.2
              have heq : ((at_ P k).toList == t.toList) = true := by rw [hst.1]; simp
              have hlt2 : (((runD t m (P.take k)).2 : Nat) : Int) < ((m : Nat) : Int) := by have := hst.2; omega
              clear hst
              go_wp2_with fail
              go_roundw
              case rel =>
                have hfin : DropRel w l t P sl w1.heap.size false (m) (.int .i64 ((((runD t (m) (P.take k)).2 : Nat) : Int) + 1)) w3 := ⟨k + 1, f3, slk, fk, hlt, by rw [HS2.out]; go_num, hR3, hL3, by rw [HS2.out]; exact hK3, by rw [HS2.out]; exact hLk, hB3⟩
                first | exact hfin | ((repeat apply Exists.intro); exact ⟨hfin, rfl⟩)
              case measure => rw [HCN.out, HN3.out]; omega
            · have HS2 : Hid (runD t m (P.take (k + 1)) = ((runD t m (P.take k)).1 ++ [at_ P k], (runD t m (P.take k)).2)) := by show _ = _; rw [HSN.out]; exact stepD_miss hst
              have hcase : ((at_ P k).toList == t.toList) = false ∨ (((at_ P k).toList == t.toList) = true ∧ ((m : Nat) : Int) ≤ (((runD t m (P.take k)).2 : Nat) : Int)) := by
                cases he : ((at_ P k).toList == t.toList) with
                | false => exact .inl rfl
                | true => right; refine ⟨rfl, ?_⟩; have : ¬ (runD t m (P.take k)).2 < m := fun h => hst ⟨bytes_ext (by simpa using he), h⟩; omega
              have hKlen : (runD t m (P.take k)).1.length < 16 := by omega
              clear hst
              rcases hcase with heq | ⟨heq, hge⟩
              all_goals
                go_wp2_with fail
                refine (push_any (w1.heap.size + 1) fk _ slk (!false) (at_ P k) _ hK3 hKlen).mono ?_
                rw [hLk, push_turn]
                rintro e w4 ⟨rfl, ⟨sl4, f4, hR4, hL4⟩, hg4⟩
                have hR5 := ring_other hR3 hg4 (by omega)
                have hB5 : Below w.heap.size w w4 := hB3.grown hg4 hsz3 (fun j hj => by simp at hj; omega)
                have HN5 : Hid (cellN w4 w1.heap.size = l.length - (k + 1)) := cellN_ring hR5
                clear hg4 hR3 hK3 hB3
                go_wp2_with fail
                go_roundw
                case rel =>
                  have hfin : DropRel w l t P sl w1.heap.size false (m) (.int .i64 (((runD t (m) (P.take k)).2 : Nat) : Int)) w4 := ⟨k + 1, f3, sl4, f4, hlt, by rw [HS2.out], hR5, hL3, by rw [HS2.out, List.length_append]; exact hR4, by rw [HS2.out, List.length_append]; exact hL4, hB5⟩
                  first | exact hfin | ((repeat apply Exists.intro); exact ⟨hfin, rfl⟩)
                case measure => rw [HCN.out, HN5.out]; omega
          · have e : k = l.length := by omega
            subst e
            have hz : ((l.length - l.length : Nat) : Int) = 0 := by omega
            go_wp2_with fail
            refine (texts_any (w1.heap.size + 1) fk _ slk _ hK).mono ?_
            rw [hLk]
            rintro e w3 ⟨u, rfl, ho, hB3⟩
            have hB4 := hB.trans (hB3.mono hszr)
            have ho2 := owns_base ho hszr
            have eT : P.take l.length = P := by rw [← HPL.out]; exact List.take_length
            rw [eT] at ho2
            have HNN : Hid (dropN l (-(m : Int)) t = (((runD t m P).2 : Nat) : Int)) := by show _ = _; unfold dropN runC; rw [HD.out, HF.out, HM.out, HP.out]; rfl
            have HRR : Hid (dropR l (-(m : Int)) t = turn false (runD t m P).1) := by show _ = _; unfold dropR runC; rw [HD.out, HF.out, HM.out, HP.out]; rfl
            clear ho hB3
            go_wp2_with fail
            go_ret2
            exact ⟨_, by rw [HNN.out, ← eT]; rfl, by rw [HRR.out]; exact ho2, hB4⟩
      · have hc0 : ((0 : Int) == 0) = true := rfl
        go_wp2_with (first | (refine wpList_store_row rfl 51 (.tmp 8) (.tmp 18) rfl w1.heap.size (ringArr sl 0 l.length) rfl rfl 51 (ringArr none16 0 0) (heap_alloc_new _ _) hi (sizeRs hl) ringArr_one ?_; show wpList _ _ _ _ _ (stored w1 sl 0 l.length); rw [HWW.out]) | (go_at_call 49; refine (placeOk_any _ _).mono ?_; rintro e w' ⟨rfl, rfl⟩))
        go_loopw [13, 14] (fun g _ wr => DropRel w l t P sl w1.heap.size true l.length g wr) (fun _ _ wr => cellN wr w1.heap.size)
        case atStart => exact ⟨0, 0, none16, 0, Nat.zero_le _, rfl, hRk, hall, hKk, hzero, hBk⟩
        case round =>
          obtain ⟨k, f', slk, fk, hk, rfl, hR, hLr, hK, hLk, hB⟩ := hrel
          have hcs := ring_size hR
          have hszr := hB.size
          have hrb := runD_bd t l.length (P.take k)
          have hN := cellN_ring hR
          have HCN : Hid (cellN wr w1.heap.size = l.length - k) := hN
          clear hN hRk hKk hBk hall hzero hc
          by_cases hlt : k < l.length
          · have hpos : (0 : Int) < ((l.length - k : Nat) : Int) := by omega
            have hkP : k < P.length := by rw [HPL.out]; exact hlt
            have hpt := pop_turn (front := true) (l := P.drop k) (by simp; omega)
            have HSN : Hid (runD t l.length (P.take (k + 1)) = stepD t l.length (runD t l.length (P.take k)) (at_ P k)) := by
              show _ = _; rw [List.take_succ_eq_append_getElem hkP, at_lt hkP]; exact runD_snoc _ _ _ _
            rw [drop_at, List.tail_drop] at hpt
            go_wp2_with fail
            refine (pop_ring w1.heap.size f' (l.length - k) sl true _ hR (by omega)).mono ?_
            rw [hLr, hpt.1, hpt.2]
            rintro e w3 ⟨rfl, ⟨f3, hR3, hL3⟩, hg3⟩
            have hK3 := ring_other hK hg3 (by omega)
            have hB3 : Below w.heap.size w w3 := hB.grown hg3 hszr (fun j hj => by simp at hj; omega)
            have hN3 := cellN_ring hR3
            have HN3 : Hid (cellN w3 w1.heap.size = l.length - k - 1) := hN3
            have hsz3 := hB3.size
            have hlen1 : (P.take k).length = k := by simp; omega
            clear hR hK hg3 hpt hcs hB hLr hN3
            rw [show l.length - k - 1 = l.length - (k + 1) by omega] at hR3 hL3
            by_cases hst : at_ P k = t ∧ (runD t l.length (P.take k)).2 < l.length
            · have HS2 : Hid (runD t l.length (P.take (k + 1)) = ((runD t l.length (P.take k)).1, (runD t l.length (P.take k)).2 + 1)) := by show _ = _; rw [HSN.out]; exact stepD_hit hst.1 hst.2
              have heq : ((at_ P k).toList == t.toList) = true := by rw [hst.1]; simp
              have hlt2 : (((runD t l.length (P.take k)).2 : Nat) : Int) < ((l.length : Nat) : Int) := by have := hst.2; omega
              clear hst
              go_wp2_with fail
              go_roundw
              case rel =>
                have hfin : DropRel w l t P sl w1.heap.size true (l.length) (.int .i64 ((((runD t (l.length) (P.take k)).2 : Nat) : Int) + 1)) w3 := ⟨k + 1, f3, slk, fk, hlt, by rw [HS2.out]; go_num, hR3, hL3, by rw [HS2.out]; exact hK3, by rw [HS2.out]; exact hLk, hB3⟩
                first | exact hfin | ((repeat apply Exists.intro); exact ⟨hfin, rfl⟩)
              case measure => rw [HCN.out, HN3.out]; omega
            · have HS2 : Hid (runD t l.length (P.take (k + 1)) = ((runD t l.length (P.take k)).1 ++ [at_ P k], (runD t l.length (P.take k)).2)) := by show _ = _; rw [HSN.out]; exact stepD_miss hst
              have hcase : ((at_ P k).toList == t.toList) = false ∨ (((at_ P k).toList == t.toList) = true ∧ ((l.length : Nat) : Int) ≤ (((runD t l.length (P.take k)).2 : Nat) : Int)) := by
                cases he : ((at_ P k).toList == t.toList) with
                | false => exact .inl rfl
                | true => right; refine ⟨rfl, ?_⟩; have : ¬ (runD t l.length (P.take k)).2 < l.length := fun h => hst ⟨bytes_ext (by simpa using he), h⟩; omega
              have hKlen : (runD t l.length (P.take k)).1.length < 16 := by omega
              clear hst
              have heq := hcase.resolve_right (fun h => by have := h.2; omega)
              go_wp2_with fail
              refine (push_any (w1.heap.size + 1) fk _ slk (!true) (at_ P k) _ hK3 hKlen).mono ?_
              rw [hLk, push_turn]
              rintro e w4 ⟨rfl, ⟨sl4, f4, hR4, hL4⟩, hg4⟩
              have hR5 := ring_other hR3 hg4 (by omega)
              have hB5 : Below w.heap.size w w4 := hB3.grown hg4 hsz3 (fun j hj => by simp at hj; omega)
              have HN5 : Hid (cellN w4 w1.heap.size = l.length - (k + 1)) := cellN_ring hR5
              clear hg4 hR3 hK3 hB3
              go_wp2_with fail
              go_roundw
              case rel =>
                have hfin : DropRel w l t P sl w1.heap.size true (l.length) (.int .i64 (((runD t (l.length) (P.take k)).2 : Nat) : Int)) w4 := ⟨k + 1, f3, sl4, f4, hlt, by rw [HS2.out], hR5, hL3, by rw [HS2.out, List.length_append]; exact hR4, by rw [HS2.out, List.length_append]; exact hL4, hB5⟩
                first | exact hfin | ((repeat apply Exists.intro); exact ⟨hfin, rfl⟩)
              case measure => rw [HCN.out, HN5.out]; omega
          · have e : k = l.length := by omega
            subst e
            have hz : ((l.length - l.length : Nat) : Int) = 0 := by omega
            go_wp2_with fail
            refine (texts_any (w1.heap.size + 1) fk _ slk _ hK).mono ?_
            rw [hLk]
            rintro e w3 ⟨u, rfl, ho, hB3⟩
            have hB4 := hB.trans (hB3.mono hszr)
            have ho2 := owns_base ho hszr
            have eT : P.take l.length = P := by rw [← HPL.out]; exact List.take_length
            rw [eT] at ho2
            have HNN : Hid (dropN l (0) t = (((runD t l.length P).2 : Nat) : Int)) := by show _ = _; unfold dropN runC; rw [HD.out, HF.out, HM.out, HP.out]; rfl
            have HRR : Hid (dropR l (0) t = turn true (runD t l.length P).1) := by show _ = _; unfold dropR runC; rw [HD.out, HF.out, HM.out, HP.out]; rfl
            clear ho hB3
            go_wp2_with fail
            go_ret2
            exact ⟨_, by rw [HNN.out, ← eT]; rfl, by rw [HRR.out]; exact ho2, hB4⟩
      · have hc0 : ((m : Int) == 0) = false := beq_eq_false_iff_ne.2 (by omega)
        go_wp2_with (first | (refine wpList_store_row rfl 51 (.tmp 8) (.tmp 18) rfl w1.heap.size (ringArr sl 0 l.length) rfl rfl 51 (ringArr none16 0 0) (heap_alloc_new _ _) hi (sizeRs hl) ringArr_one ?_; show wpList _ _ _ _ _ (stored w1 sl 0 l.length); rw [HWW.out]) | (go_at_call 49; refine (placeOk_any _ _).mono ?_; rintro e w' ⟨rfl, rfl⟩))
        go_loopw [13, 14] (fun g _ wr => DropRel w l t P sl w1.heap.size true m g wr) (fun _ _ wr => cellN wr w1.heap.size)
        case atStart => exact ⟨0, 0, none16, 0, Nat.zero_le _, rfl, hRk, hall, hKk, hzero, hBk⟩
        case round =>
          obtain ⟨k, f', slk, fk, hk, rfl, hR, hLr, hK, hLk, hB⟩ := hrel
          have hcs := ring_size hR
          have hszr := hB.size
          have hrb := runD_bd t m (P.take k)
          have hN := cellN_ring hR
          have HCN : Hid (cellN wr w1.heap.size = l.length - k) := hN
          clear hN hRk hKk hBk hall hzero hc
          by_cases hlt : k < l.length
          · have hpos : (0 : Int) < ((l.length - k : Nat) : Int) := by omega
            have hkP : k < P.length := by rw [HPL.out]; exact hlt
            have hpt := pop_turn (front := true) (l := P.drop k) (by simp; omega)
            have HSN : Hid (runD t m (P.take (k + 1)) = stepD t m (runD t m (P.take k)) (at_ P k)) := by
              show _ = _; rw [List.take_succ_eq_append_getElem hkP, at_lt hkP]; exact runD_snoc _ _ _ _
            rw [drop_at, List.tail_drop] at hpt
            go_wp2_with fail
            refine (pop_ring w1.heap.size f' (l.length - k) sl true _ hR (by omega)).mono ?_
            rw [hLr, hpt.1, hpt.2]
            rintro e w3 ⟨rfl, ⟨f3, hR3, hL3⟩, hg3⟩
            have hK3 := ring_other hK hg3 (by omega)
            have hB3 : Below w.heap.size w w3 := hB.grown hg3 hszr (fun j hj => by simp at hj; omega)
            have hN3 := cellN_ring hR3
            have HN3 : Hid (cellN w3 w1.heap.size = l.length - k - 1) := hN3
            have hsz3 := hB3.size
            have hlen1 : (P.take k).length = k := by simp; omega
            clear hR hK hg3 hpt hcs hB hLr hN3
            rw [show l.length - k - 1 = l.length - (k + 1) by omega] at hR3 hL3
            by_cases hst : at_ P k = t ∧ (runD t m (P.take k)).2 < m
            · have HS2 : Hid (runD t m (P.take (k + 1)) = ((runD t m (P.take k)).1, (runD t m (P.take k)).2 + 1)) := by show _ = _; rw [HSN.out]; exact stepD_hit hst.1 hst.2
              have heq : ((at_ P k).toList == t.toList) = true := by rw [hst.1]; simp
              have hlt2 : (((runD t m (P.take k)).2 : Nat) : Int) < ((m : Nat) : Int) := by have := hst.2; omega
              clear hst
              go_wp2_with fail
              go_roundw
              case rel =>
                have hfin : DropRel w l t P sl w1.heap.size true (m) (.int .i64 ((((runD t (m) (P.take k)).2 : Nat) : Int) + 1)) w3 := ⟨k + 1, f3, slk, fk, hlt, by rw [HS2.out]; go_num, hR3, hL3, by rw [HS2.out]; exact hK3, by rw [HS2.out]; exact hLk, hB3⟩
                first | exact hfin | ((repeat apply Exists.intro); exact ⟨hfin, rfl⟩)
              case measure => rw [HCN.out, HN3.out]; omega
            · have HS2 : Hid (runD t m (P.take (k + 1)) = ((runD t m (P.take k)).1 ++ [at_ P k], (runD t m (P.take k)).2)) := by show _ = _; rw [HSN.out]; exact stepD_miss hst
              have hcase : ((at_ P k).toList == t.toList) = false ∨ (((at_ P k).toList == t.toList) = true ∧ ((m : Nat) : Int) ≤ (((runD t m (P.take k)).2 : Nat) : Int)) := by
                cases he : ((at_ P k).toList == t.toList) with
                | false => exact .inl rfl
                | true => right; refine ⟨rfl, ?_⟩; have : ¬ (runD t m (P.take k)).2 < m := fun h => hst ⟨bytes_ext (by simpa using he), h⟩; omega
              have hKlen : (runD t m (P.take k)).1.length < 16 := by omega
              clear hst
              rcases hcase with heq | ⟨heq, hge⟩
              all_goals
                go_wp2_with fail
                refine (push_any (w1.heap.size + 1) fk _ slk (!true) (at_ P k) _ hK3 hKlen).mono ?_
                rw [hLk, push_turn]
                rintro e w4 ⟨rfl, ⟨sl4, f4, hR4, hL4⟩, hg4⟩
                have hR5 := ring_other hR3 hg4 (by omega)
                have hB5 : Below w.heap.size w w4 := hB3.grown hg4 hsz3 (fun j hj => by simp at hj; omega)
                have HN5 : Hid (cellN w4 w1.heap.size = l.length - (k + 1)) := cellN_ring hR5
                clear hg4 hR3 hK3 hB3
                go_wp2_with fail
                go_roundw
                case rel =>
                  have hfin : DropRel w l t P sl w1.heap.size true (m) (.int .i64 (((runD t (m) (P.take k)).2 : Nat) : Int)) w4 := ⟨k + 1, f3, sl4, f4, hlt, by rw [HS2.out], hR5, hL3, by rw [HS2.out, List.length_append]; exact hR4, by rw [HS2.out, List.length_append]; exact hL4, hB5⟩
                  first | exact hfin | ((repeat apply Exists.intro); exact ⟨hfin, rfl⟩)
                case measure => rw [HCN.out, HN5.out]; omega
          · have e : k = l.length := by omega
            subst e
            have hz : ((l.length - l.length : Nat) : Int) = 0 := by omega
            go_wp2_with fail
            refine (texts_any (w1.heap.size + 1) fk _ slk _ hK).mono ?_
            rw [hLk]
            rintro e w3 ⟨u, rfl, ho, hB3⟩
            have hB4 := hB.trans (hB3.mono hszr)
            have ho2 := owns_base ho hszr
            have eT : P.take l.length = P := by rw [← HPL.out]; exact List.take_length
            rw [eT] at ho2
            have HNN : Hid (dropN l ((m : Int)) t = (((runD t m P).2 : Nat) : Int)) := by show _ = _; unfold dropN runC; rw [HD.out, HF.out, HM.out, HP.out]; rfl
            have HRR : Hid (dropR l ((m : Int)) t = turn true (runD t m P).1) := by show _ = _; unfold dropR runC; rw [HD.out, HF.out, HM.out, HP.out]; rfl
            clear ho hB3
            go_wp2_with fail
            go_ret2
            exact ⟨_, by rw [HNN.out, ← eT]; rfl, by rw [HRR.out]; exact ho2, hB4⟩

set_option maxHeartbeats 4000000 in
theorem turn_any (v : Value) (l : List ByteArray) (w : World) (hr : Reads w v l) (hlen : l.length ≤ 1000) :
    Calls Try.prog 56 #[v] w fun e w' => ∃ x, e = .returned x ∧ Owns w' w.heap.size x l.reverse ∧ Below w.heap.size w w' := by
  obtain ⟨i0, hi, hz0, hz1, hz2⟩ := info_parts infoS
  have ho0 : Owns (w.alloc (.cells #[] 9)) w.heap.size (.slice (some ⟨w.heap.size, 0, none⟩) 0 0) [] := World.ownsRow_lit w #[] 0 (Nat.le_refl _) (by simp) rfl
  have hB0 : Below w.heap.size w (w.alloc (.cells #[] 9)) := (Below.refl _ _).alloc (Nat.le_refl _) _
  obtain ⟨aq, capq, rfl⟩ := reads_shape hr
  go_enter Try.func56, Try.ntmps56
  go_wp2_with fail
  go_loopw [3, 4] (fun x i wr => ∃ k : Nat, k ≤ l.length ∧ i = .int .i64 ((k : Int) - 1) ∧ Owns wr w.heap.size x (l.drop k).reverse ∧ Below w.heap.size w wr) (fun _ i _ => (intOf i + 1).toNat)
  case atStart => exact ⟨l.length, Nat.le_refl _, rfl, by rw [List.drop_length]; exact ho0, hB0⟩
  case round =>
    obtain ⟨k, hk, rfl, ho, hB⟩ := hrel
    have hsz := hB.size
    clear ho0 hB0
    by_cases h0 : 0 < k
    · obtain ⟨j, rfl⟩ : ∃ j, k = j + 1 := ⟨k - 1, by omega⟩
      have ej : (((j + 1 : Nat) : Int) - 1) = (j : Int) := by omega
      rw [ej]
      obtain ⟨b, off, rfl, hb, hcq⟩ := reads_some hr (by omega)
      have hcell : wr.cell? ⟨b, off + j, none⟩ = some (.string (at_ l j)) := (hB.cell (p := ⟨b, off + j, none⟩) hb).trans (hcq j hk)
      have hlt : (j : Int) < (l.length : Int) := by omega
      have HST : Hid ((l.drop j).reverse = (l.drop (j + 1)).reverse ++ [at_ l j]) := by show _ = _; rw [List.drop_eq_getElem_cons hk, List.reverse_cons, at_lt hk]
      have hlk : (l.drop (j + 1)).reverse.length ≤ 1000 := by simp; omega
      generalize (l.drop (j + 1)).reverse = P at *
      unfold Owns at ho
      have hB2 := hB.alloc hsz (.cells #[.string (at_ l j)] 9)
      clear hcq hr ej
      go_wp2_with (at_builtin; refine wpList_append_own _ rfl (.tmp 13) (.tmp 18) 22 rfl w.heap.size 9 i0 (.string ByteArray.empty) 1 16 Try.underlying22 hi hz0 hz1 hz2 rfl (by decide) _ _ _ rfl (ho.alloc _) ⟨wr.heap.size, 0, none⟩ 1 1 [.string (at_ l j)] rfl rfl (cell_one_new _ _ _) (strs_one [at_ l j]) (by unfold maxLen; omega) (by omega) (by simp; omega) ?_)
      intro x2 w2 hown2 hgrow2 _
      have ho2 : Owns w2 w.heap.size x2 (l.drop j).reverse := by
        rw [HST.out]; unfold Owns; rw [List.length_append, List.map_append]; exact hown2
      have hB3 : Below w.heap.size w w2 := hB2.grown hgrow2 (by simp; omega) (fun i hi => (ho.lt i hi).1)
      clear hown2 hgrow2 ho hB2
      go_wp2_with fail
      go_roundw
      case rel => exact ⟨j, by omega, rfl, ho2, hB3⟩
      case measure => simp [intOf]
    · obtain rfl : k = 0 := by omega
      go_wp2_with fail
      go_ret
      exact ⟨_, rfl, by simpa using ho, hB⟩
end Go.Proofs.Ytjgnfneondlhhaa
