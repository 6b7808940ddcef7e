/- Rows of entries marked whole, and asked for again: the marks that a law writes into an answer. -/
import Derived.Test.YtnaklhompdcgeaaMkW1
namespace Go.Proofs.Ytnaklhompdcgeaa
open Go.RowKit
set_option linter.unusedVariables false

def rowN (x : Row) : Nat := 4 + x.e.list.length + 2 * x.e.scores.length + 2 * x.e.fields.length
def mkEnt (k : Nat) (e : Ent) : Ent := ⟨mk (k : Int), (k : Int) + 1, (k : Int) + 1 + 1, mk ((k : Int) + 1 + 1 + 1), marks (k + 4) e.list.length, scMarks (k + 4 + e.list.length) e.scores.length, prMarks (k + 4 + e.list.length + 2 * e.scores.length) e.fields.length⟩
def mkRow (k : Nat) (x : Row) : Row := { x with e := mkEnt k x.e }
def mkRows : Nat → List Row → List Row
  | _, [] => []
  | k, x :: l => mkRow k x :: mkRows (k + rowN x) l
def rowsN : List Row → Nat
  | [] => 0
  | x :: l => rowN x + rowsN l
theorem rowsN_M : ∀ l : List Row, (rowsN l : Int) = rowsM l
  | [] => by unfold rowsN rowsM; rfl
  | x :: l => by have := rowsN_M l; unfold rowsN rowsM rowN rowM; omega
theorem mkRows_len : ∀ (l : List Row) (k : Nat), (mkRows k l).length = l.length
  | [], _ => rfl
  | x :: l, k => by unfold mkRows; rw [List.length_cons, List.length_cons, mkRows_len l]
theorem mkRows_snoc : ∀ (l : List Row) (k : Nat) (x : Row), mkRows k (l ++ [x]) = mkRows k l ++ [mkRow (k + rowsN l) x]
  | [], k, x => by show mkRow k x :: [] = [] ++ [mkRow (k + 0) x]; rfl
  | y :: l, k, x => by
    show mkRow k y :: mkRows (k + rowN y) (l ++ [x]) = (mkRow k y :: mkRows (k + rowN y) l) ++ [mkRow (k + (rowN y + rowsN l)) x]
    rw [mkRows_snoc l, Nat.add_assoc]; rfl
theorem mkRows_split : ∀ (l : List Row) (k j : Nat), mkRows k (l.take j) ++ mkRows (k + rowsN (l.take j)) (l.drop j) = mkRows k l
  | [], k, j => by simp [mkRows]
  | x :: l, k, 0 => by simp [mkRows, rowsN]
  | x :: l, k, j + 1 => by
    have := mkRows_split l (k + rowN x) j
    rw [List.take_succ_cons, List.drop_succ_cons]
    show mkRow k x :: (mkRows (k + rowN x) (l.take j) ++ mkRows (k + (rowN x + rowsN (l.take j))) (l.drop j)) = mkRow k x :: mkRows (k + rowN x) l
    rw [← Nat.add_assoc, this]
theorem rowsN_snoc : ∀ (l : List Row) (x : Row), rowsN (l ++ [x]) = rowsN l + rowN x
  | [], x => by show rowN x + 0 = 0 + rowN x; omega
  | y :: l, x => by show rowN y + rowsN (l ++ [x]) = rowN y + rowsN l + rowN x; rw [rowsN_snoc l]; omega
theorem rowsN_take : ∀ (l : List Row) (j : Nat), rowsN (l.take j) + rowsN (l.drop j) = rowsN l
  | [], j => by simp [rowsN]
  | x :: l, 0 => by simp [rowsN]
  | x :: l, j + 1 => by
    have := rowsN_take l j
    rw [List.take_succ_cons, List.drop_succ_cons]
    show rowN x + rowsN (l.take j) + rowsN (l.drop j) = rowN x + rowsN l
    omega
theorem take_es {l : List Row} {j : Nat} (h : j < l.length) : l.take (j + 1) = l.take j ++ [esAt l j] := by
  rw [List.take_succ_eq_append_getElem h, esAt_get h]
theorem flat_cong {M : List Row} {j : Nat} {a b : Row} (h : rowC a = rowC b) : (M.set j a).flatMap rowC = (M.set j b).flatMap rowC := by
  rw [List.flatMap_def, List.flatMap_def, List.map_set, List.map_set, h]
def rowK (x : Row) (a : ByteArray) (b c : Int) : Row := ⟨⟨a, b, c, x.e.text, x.e.list, x.e.scores, x.e.fields⟩, x.al, x.cl, x.as_, x.cs, x.af, x.cf⟩
def rowT (x : Row) (t : ByteArray) : Row := ⟨⟨x.e.key, x.e.til, x.e.kind, t, x.e.list, x.e.scores, x.e.fields⟩, x.al, x.cl, x.as_, x.cs, x.af, x.cf⟩
theorem store3 {w : World} {base g cap j : Nat} {M : List Row} {x : Row} (h : OwnsR rowC 7 43 w base (.slice (some ⟨g, 0, none⟩) M.length cap) M) (hj : M[j]? = some x) (a : ByteArray) (b c : Int) :
    OwnsR rowC 7 43 (((w.setCell ⟨g, j * 7, none⟩ (.string a)).setCell ⟨g, j * 7 + 1, none⟩ (.int .i64 b)).setCell ⟨g, j * 7 + 2, none⟩ (.int .i64 c)) base (.slice (some ⟨g, 0, none⟩) M.length cap) (M.set j (rowK x a b c)) := by
  have h1 := (ownsR_stored rowC_len h j 0 x (rowK x a x.e.til x.e.kind) (.string a) hj (by omega) rfl).1
  have e1 : (M.set j (rowK x a x.e.til x.e.kind)).length = M.length := List.length_set
  rw [Nat.add_zero, ← e1] at h1
  have h2 := (ownsR_stored rowC_len h1 j 1 _ (rowK x a b x.e.kind) (.int .i64 b) (set_at hj) (by omega) rfl).1
  have e2 : (M.set j (rowK x a b x.e.kind)).length = M.length := List.length_set
  rw [List.set_set, e1, ← e2] at h2
  have h3 := (ownsR_stored rowC_len h2 j 2 _ (rowK x a b c) (.int .i64 c) (set_at hj) (by omega) rfl).1
  rw [List.set_set, e2] at h3
  exact h3
theorem store1 {w : World} {base g cap j : Nat} {M : List Row} {x : Row} (h : OwnsR rowC 7 43 w base (.slice (some ⟨g, 0, none⟩) M.length cap) M) (hj : M[j]? = some x) (t : ByteArray) :
    OwnsR rowC 7 43 (w.setCell ⟨g, j * 7 + 3, none⟩ (.string t)) base (.slice (some ⟨g, 0, none⟩) M.length cap) (M.set j (rowT x t)) :=
  (ownsR_stored rowC_len h j 3 x (rowT x t) (.string t) hj (by omega) rfl).1
theorem row_mid {l : List Row} {j k : Nat} (h : j < l.length) : (mkRows k (l.take j) ++ l.drop j)[j]? = some (esAt l j) := by
  have hl : (mkRows k (l.take j)).length = j := by rw [mkRows_len, List.length_take]; omega
  rw [List.getElem?_append_right (by omega), hl, Nat.sub_self, drop_es h]; rfl
theorem row_put {l : List Row} {j k : Nat} {y : Row} (h : j < l.length) (hy : y = mkRow (k + rowsN (l.take j)) (esAt l j)) : (mkRows k (l.take j) ++ l.drop j).set j y = mkRows k (l.take (j + 1)) ++ l.drop (j + 1) := by
  have hl : (mkRows k (l.take j)).length = j := by rw [mkRows_len, List.length_take]; omega
  rw [List.set_append_right _ _ (by omega), hl, Nat.sub_self, drop_es h, List.set_cons_zero, take_es h, mkRows_snoc, hy, List.append_assoc]; rfl
theorem row_all {l : List Row} {k : Nat} : mkRows k (l.take l.length) ++ l.drop l.length = mkRows k l := by rw [List.take_length, List.drop_length, List.append_nil]
theorem row_len {l : List Row} {j k : Nat} (h : j ≤ l.length) : (mkRows k (l.take j) ++ l.drop j).length = l.length := by
  rw [List.length_append, mkRows_len, List.length_take, List.length_drop]; omega

theorem ownsR_off {w w' : World} {base g n cap p q : Nat} {M : List Row} (h : OwnsR rowC 7 43 w base (.slice (some ⟨g, 0, none⟩) n cap) M) (hw : Within w w' p q) (hg : g < p ∨ q ≤ g) : OwnsR rowC 7 43 w' base (.slice (some ⟨g, 0, none⟩) n cap) M :=
  ownsRow_block h fun g' hg' => hw.block g' (World.ownsRow.lt h g' hg').2 (by
    have e : g = g' := by simpa [Value.ownBlock] using hg'
    subst e; exact hg)
theorem ensOwn_before {w w' : World} {p q : Nat} (hw : Within w w' p q) : ∀ {l : List Row} {lo hi : Nat}, hi ≤ p → EnsOwn w lo hi l → EnsOwn w' lo hi l
  | [], _, _, _, h => h
  | x :: l, lo, hi, hp, ⟨m, h1, h2, h3⟩ => ⟨m, h1, enOwn_within h2 hw (.inl (Nat.le_trans (ensOwn_le h3) hp)), ensOwn_before hw hp h3⟩
theorem ensOwn_up {w : World} : ∀ {l : List Row} {lo hi hi' : Nat}, EnsOwn w lo hi l → hi ≤ hi' → EnsOwn w lo hi' l
  | [], _, _, _, h, h2 => Nat.le_trans h h2
  | x :: l, _, _, _, ⟨m, h1, h2, h3⟩, h4 => ⟨m, h1, h2, ensOwn_up h3 h4⟩
theorem mkRow_cells {w : World} {base g cap j k : Nat} {D : List Row} {x : Row} {n : Nat} (h : OwnsR rowC 7 43 w base (.slice (some ⟨g, 0, none⟩) n cap) D) (hn : D.length = n) (hj : D[j]? = some (mkRow k x)) :
    w.cell? ⟨g, j * 7 + 5, none⟩ = some (.slice x.as_ x.e.scores.length x.cs) ∧ w.cell? ⟨g, j * 7 + 6, none⟩ = some (.slice x.af x.e.fields.length x.cf) := by
  subst hn
  have h5 := cellR rowC_len h hj 5 _ rfl
  have h6 := cellR rowC_len h hj 6 _ rfl
  rw [show (mkRow k x).e.scores.length = x.e.scores.length from scMarks_len _ _] at h5
  rw [show (mkRow k x).e.fields.length = x.e.fields.length from prMarks_len _ _] at h6
  exact ⟨h5, h6⟩
theorem row_put_at {l : List Row} {j k : Nat} (h : j < l.length) : (mkRows k (l.take (j + 1)) ++ l.drop (j + 1))[j]? = some (mkRow (k + rowsN (l.take j)) (esAt l j)) := by
  rw [← row_put h rfl]; exact set_at (row_mid h)

set_option maxRecDepth 100000 in
set_option maxHeartbeats 8000000 in
theorem markAll_any (v : Value) (l : List Row) (lo m hi : Nat) (w : World) (ho : OwnR rowC 7 43 w lo m v l) (hin : EnsOwn w m hi l) (hhi : hi ≤ w.heap.size) (hm : rowsM l ≤ 4194304) (hs : ∀ x ∈ l, EnSmall x.e) :
    Calls Try.prog 22 #[v, .int .i64 1] w fun x w' => x = .returned (.int .i64 (1 + rowsM l)) ∧ OwnR rowC 7 43 w' lo m v (mkRows 1 l) ∧ EnsOwn w' m hi (mkRows 1 l) ∧ Within w w' lo hi := by
  have hmhi := ensOwn_le hin
  have hN := rowsN_M l
  obtain ⟨ao, cap, rfl⟩ := readsR_shape (ownR_reads rowC_len ho)
  by_cases h0 : 0 < l.length
  · obtain ⟨g, cs, rfl, hg1, hg2, hrow, hnc, hcm, hcs⟩ := rows_block ho h0
    have hmlen : (l.length : Int) ≤ 4194304 := by have := rowsM_len l; omega
    have HO0 : OwnsR rowC 7 43 w lo (.slice (some ⟨g, 0, none⟩) l.length cap) (mkRows 1 (l.take 0) ++ l.drop 0) := ho.1
    have HI0 : EnsOwn w m hi (l.drop 0) := hin
    clear ho hin hrow hcs
    go_enter Try.func22, Try.ntmps22
    go_wp2_with fail
    go_loopw [1, 5] (fun c i wr => ∃ (j a : Nat), j ≤ l.length ∧ i = .int .i64 j ∧ c = .int .i64 ((1 + rowsN (l.take j) : Nat) : Int) ∧ m ≤ a ∧ Hid (OwnsR rowC 7 43 wr lo (.slice (some ⟨g, 0, none⟩) l.length cap) (mkRows 1 (l.take j) ++ l.drop j)) ∧ Hid (EnsOwn wr m a (mkRows 1 (l.take j))) ∧ EnsOwn wr a hi (l.drop j) ∧ Within w wr lo hi) (fun _ i _ => l.length - (intOf i).toNat)
    case atStart => exact ⟨0, m, Nat.zero_le _, rfl, rfl, Nat.le_refl _, HO0, Nat.le_refl m, HI0, within_refl _ _ _⟩
    case round =>
      obtain ⟨j, a, hj, rfl, rfl, ham, HO, HD, hE, hW⟩ := hrel
      by_cases hlt : j < l.length
      · have hjl : (j : Int) < (l.length : Int) := by omega
        have hsm := hs _ (esAt_mem hlt)
        have hrt := rowsN_take l j
        rw [drop_es hlt] at hE hrt
        obtain ⟨b, hab, hX, hE⟩ := hE
        have hbi := ensOwn_le hE
        have hstep : rowsN (l.take (j + 1)) = rowsN (l.take j) + rowN (esAt l j) := by rw [take_es hlt, rowsN_snoc]
        have HST : Hid _ := hstep
        obtain ⟨k, hk⟩ : ∃ k, 1 + rowsN (l.take j) = k := ⟨_, rfl⟩
        have HKK : Hid (1 + rowsN (l.take j) = k) := hk
        have hkb : (k : Int) + (4 + ((esAt l j).e.list.length : Int) + 2 * ((esAt l j).e.scores.length : Int) + 2 * ((esAt l j).e.fields.length : Int)) ≤ 4194305 := by
          have hrt2 : rowsN (l.take j) + (rowN (esAt l j) + rowsN (l.drop (j + 1))) = rowsN l := hrt
          unfold rowN at hrt2
          omega
        have hk0 : (0 : Int) < (k : Int) := by omega
        rw [hk]
        have hMl : (mkRows 1 (l.take j) ++ l.drop j).length = l.length := row_len hj
        have HM : Hid ((mkRows 1 (l.take j) ++ l.drop j)[j]? = some (esAt l j)) := row_mid hlt
        obtain ⟨M, hMM⟩ : ∃ M, mkRows 1 (l.take j) ++ l.drop j = M := ⟨_, rfl⟩
        have HMM : Hid (mkRows 1 (l.take j) ++ l.drop j = M) := hMM
        rw [hMM] at HO HM hMl
        rw [← hMl] at HO
        clear hrt hstep hk hMM
        go_wp2_with fail
        refine (mark_any k _ hk0 (by omega)).mono ?_
        rintro e w1 ⟨rfl, hb1⟩
        have HO1 : Hid _ := ownsR_kept HO.out hb1
        have HD1 : Hid _ := ensOwn_kept HD.out hb1
        have hX1 := enOwn_kept hX hb1
        have hE1 := ensOwn_kept hE hb1
        have hW1 := within_trans hW (within_below hb1 lo hi)
        clear hb1 HO HD hX hE hW
        have c0 : w1.cell? ⟨g, j * 7, none⟩ = _ := cellR rowC_len HO1.out HM.out 0 _ rfl
        have c1 : w1.cell? ⟨g, j * 7 + 1, none⟩ = _ := cellR rowC_len HO1.out HM.out 1 _ rfl
        have c2 : w1.cell? ⟨g, j * 7 + 2, none⟩ = _ := cellR rowC_len HO1.out HM.out 2 _ rfl
        have fz := fun o => World.ownsRow.frozenAt HO1.out o
        go_wp2_with fail
        have HO2 : Hid _ := store3 HO1.out HM.out (mk k) ((k : Int) + 1) ((k : Int) + 1 + 1)
        have S2 : Within w1 (((w1.setCell ⟨g, j * 7, none⟩ (.string (mk k))).setCell ⟨g, j * 7 + 1, none⟩ (.int .i64 ((k : Int) + 1))).setCell ⟨g, j * 7 + 2, none⟩ (.int .i64 ((k : Int) + 1 + 1))) lo m := within_set (within_set (within_set (within_refl w1 lo m) g (j * 7) _ hg1 hg2) g (j * 7 + 1) _ hg1 hg2) g (j * 7 + 2) _ hg1 hg2
        have hX2 := enOwn_within hX1 S2 (.inr ham)
        have hE2 := ensOwn_within hE1 S2 (by omega)
        have HD2 : Hid _ := ensOwn_within HD1.out S2 (Nat.le_refl _)
        have hW2 := within_trans hW1 (within_mono S2 (Nat.le_refl _) hmhi)
        clear c0 c1 c2 fz HO1 HD1 hX1 hE1 hW1 S2
        obtain ⟨w2, hWW⟩ : ∃ W, ((w1.setCell ⟨g, j * 7, none⟩ (.string (mk k))).setCell ⟨g, j * 7 + 1, none⟩ (.int .i64 ((k : Int) + 1))).setCell ⟨g, j * 7 + 2, none⟩ (.int .i64 ((k : Int) + 1 + 1)) = W := ⟨_, rfl⟩
        rw [hWW] at HO2 hX2 hE2 HD2 hW2 ⊢
        clear hWW
        refine (mark_any _ _ (by omega) (by omega)).mono ?_
        rintro e w3 ⟨rfl, hb3⟩
        have HO3 : Hid _ := ownsR_kept HO2.out hb3
        have HD3 : Hid _ := ensOwn_kept HD2.out hb3
        have hX3 := enOwn_kept hX2 hb3
        have hE3 := ensOwn_kept hE2 hb3
        have hW3 := within_trans hW2 (within_below hb3 lo hi)
        clear hb3 HO2 HD2 hX2 hE2 hW2
        have HM3 : Hid _ := set_at (y := rowK (esAt l j) (mk k) ((k : Int) + 1) ((k : Int) + 1 + 1)) HM.out
        have hl3 : (M.set j (rowK (esAt l j) (mk k) ((k : Int) + 1) ((k : Int) + 1 + 1))).length = M.length := List.length_set
        rw [← hl3] at HO3
        have c3 : w3.cell? ⟨g, j * 7 + 3, none⟩ = _ := cellR rowC_len HO3.out HM3.out 3 _ rfl
        have c4 : w3.cell? ⟨g, j * 7 + 4, none⟩ = some (.slice (esAt l j).al (esAt l j).e.list.length (esAt l j).cl) := cellR rowC_len HO3.out HM3.out 4 _ rfl
        have fz := fun o => World.ownsRow.frozenAt HO3.out o
        go_wp2_with fail
        have hst := store1 HO3.out HM3.out (mk ((k : Int) + 1 + 1 + 1))
        rw [List.set_set, hl3] at hst
        have HO4 : Hid _ := hst
        have S4 : Within w3 (w3.setCell ⟨g, j * 7 + 3, none⟩ (.string (mk ((k : Int) + 1 + 1 + 1)))) lo m := within_set (within_refl w3 lo m) g (j * 7 + 3) _ hg1 hg2
        have hX4 := enOwn_within hX3 S4 (.inr ham)
        have hE4 := ensOwn_within hE3 S4 (by omega)
        have HD4 : Hid _ := ensOwn_within HD3.out S4 (Nat.le_refl _)
        have hW4 := within_trans hW3 (within_mono S4 (Nat.le_refl _) hmhi)
        clear c3 c4 fz hst HO3 HD3 hX3 hE3 hW3 S4 HM3 hl3
        obtain ⟨w4, hWW⟩ : ∃ W, w3.setCell ⟨g, j * 7 + 3, none⟩ (.string (mk ((k : Int) + 1 + 1 + 1))) = W := ⟨_, rfl⟩
        rw [hWW] at HO4 hX4 hE4 HD4 hW4 ⊢
        clear hWW
        have hcg : rowC (rowT (rowK (esAt l j) (mk k) ((k : Int) + 1) ((k : Int) + 1 + 1)) (mk ((k : Int) + 1 + 1 + 1))) = rowC (mkRow k (esAt l j)) := by
          unfold rowC rowT rowK mkRow mkEnt
          rw [marks_len, scMarks_len, prMarks_len]
        have HO5 : Hid (OwnsR rowC 7 43 w4 lo (.slice (some ⟨g, 0, none⟩) l.length cap) (mkRows 1 (l.take (j + 1)) ++ l.drop (j + 1))) := by
          have := HO4.out
          unfold OwnsR at this ⊢
          rw [List.length_set, flat_cong hcg, hMl] at this
          rw [← HMM.out, row_put hlt (by rw [HKK.out])] at this
          rw [row_len hlt]
          exact this
        clear HO4 hcg HM HMM hMl
        obtain ⟨A, B, hA1, hA2, hA3, hl4, hc4, hf4⟩ := hX4
        have hn1 := hsm.list
        have hn2 := hsm.scores
        have hn3 := hsm.fields
        have HJ : Hid ((mkRows 1 (l.take (j + 1)) ++ l.drop (j + 1))[j]? = some (mkRow k (esAt l j))) := by
          have := row_put_at (k := 1) hlt
          rw [HKK.out] at this; exact this
        have HL : Hid ((mkRows 1 (l.take (j + 1)) ++ l.drop (j + 1)).length = l.length) := row_len hlt
        refine (mark_own_from _ (esAt l j).e.list a A _ _ hl4 (by omega) (by omega) hsm.list).mono ?_
        rintro e w5 ⟨rfl, hl5, hg5⟩
        have V5 := within_grown hg5 (own_in hl4)
        have HO6 : Hid _ := ownsR_off HO5.out V5 (.inl (by omega))
        have HD5 : Hid _ := ensOwn_before V5 (Nat.le_refl _) HD4.out
        have hE5 := ensOwn_within hE4 V5 (by omega)
        have hc5 := ownR_within hc4 V5 (.inr (Nat.le_refl _))
        have hf5 := ownR_within hf4 V5 (.inr hA2)
        have hW5 := within_trans hW4 (within_mono V5 (by omega) (by omega))
        clear hg5 V5 HO5 HD4 hE4 hl4 hc4 hf4 hW4
        have c5 := (mkRow_cells HO6.out HL.out HJ.out).1
        go_wp2_with fail
        refine (markScore_own _ (esAt l j).e.scores A B _ _ hc5 (by omega) (by omega) hsm.scores).mono ?_
        rintro e w6 ⟨rfl, hc6, hg6⟩
        have V6 := within_grown hg6 (ownR_in hc5)
        have HO7 : Hid _ := ownsR_off HO6.out V6 (.inl (by omega))
        have HD6 : Hid _ := ensOwn_before V6 hA1 HD5.out
        have hE6 := ensOwn_within hE5 V6 (by omega)
        have hl6 := own_within hl5 V6 (.inl (Nat.le_refl _))
        have hf6 := ownR_within hf5 V6 (.inr (Nat.le_refl _))
        have hW6 := within_trans hW5 (within_mono V6 (by omega) (by omega))
        clear hg6 V6 HO6 HD5 hE5 hl5 hc5 hf5 hW5 c5
        have c6 := (mkRow_cells HO7.out HL.out HJ.out).2
        go_wp2_with fail
        refine (markPair_own _ (esAt l j).e.fields B b _ _ hf6 (by omega) (by omega) hsm.fields).mono ?_
        rintro e w7 ⟨rfl, hf7, hg7⟩
        have V7 := within_grown hg7 (ownR_in hf6)
        have HO8 : Hid _ := ownsR_off HO7.out V7 (.inl (by omega))
        have HD7 : Hid _ := ensOwn_before V7 (Nat.le_trans hA1 hA2) HD6.out
        have hE7 := ensOwn_within hE6 V7 (Nat.le_refl _)
        have hl7 := own_within hl6 V7 (.inl hA2)
        have hc7 := ownR_within hc6 V7 (.inl (Nat.le_refl _))
        have hW7 := within_trans hW6 (within_mono V7 (by omega) (by omega))
        clear hg7 V7 HO7 HD6 hE6 hl6 hc6 hf6 hW6 c6
        have t1 : ((k : Int) + 1 + 1 + 1 + 1).toNat = k + 4 := by omega
        have t2 : ((k : Int) + 1 + 1 + 1 + 1 + ((esAt l j).e.list.length : Int)).toNat = k + 4 + (esAt l j).e.list.length := by omega
        have t3 : ((k : Int) + 1 + 1 + 1 + 1 + ((esAt l j).e.list.length : Int) + 2 * ((esAt l j).e.scores.length : Int)).toNat = k + 4 + (esAt l j).e.list.length + 2 * (esAt l j).e.scores.length := by omega
        rw [t1] at hl7
        rw [t2] at hc7
        rw [t3] at hf7
        have hxx : EnOwn w7 a b (mkRow k (esAt l j)).vl (mkRow k (esAt l j)).vs (mkRow k (esAt l j)).vf (mkRow k (esAt l j)).e := by
          have e1 : (mkRow k (esAt l j)).vl = .slice (esAt l j).al (esAt l j).e.list.length (esAt l j).cl := by
            show Value.slice (esAt l j).al (marks (k + 4) (esAt l j).e.list.length).length (esAt l j).cl = _
            rw [marks_len]
          have e2 : (mkRow k (esAt l j)).vs = .slice (esAt l j).as_ (esAt l j).e.scores.length (esAt l j).cs := by
            show Value.slice (esAt l j).as_ (scMarks _ (esAt l j).e.scores.length).length (esAt l j).cs = _
            rw [scMarks_len]
          have e3 : (mkRow k (esAt l j)).vf = .slice (esAt l j).af (esAt l j).e.fields.length (esAt l j).cf := by
            show Value.slice (esAt l j).af (prMarks _ (esAt l j).e.fields.length).length (esAt l j).cf = _
            rw [prMarks_len]
          rw [e1, e2, e3]
          exact ⟨A, B, hA1, hA2, hA3, hl7, hc7, hf7⟩
        have HD8 : Hid (EnsOwn w7 m b (mkRows 1 (l.take (j + 1)))) := by
          show EnsOwn w7 m b (mkRows 1 (l.take (j + 1)))
          rw [take_es hlt, mkRows_snoc, HKK.out]
          exact ensOwn_snoc HD7.out hxx
        have hkk : ((1 + rowsN (l.take (j + 1)) : Nat) : Int) = (k : Int) + 1 + 1 + 1 + 1 + ((esAt l j).e.list.length : Int) + 2 * ((esAt l j).e.scores.length : Int) + 2 * ((esAt l j).e.fields.length : Int) := by
          have h1 := HST.out
          have h2 := HKK.out
          rw [h1]
          unfold rowN
          omega
        have HKN : Hid _ := hkk
        clear hl7 hc7 hf7 hxx HD7 hkk
        have hlt' := hlt
        go_wp2_with fail
        go_roundw
        case rel => exact ⟨j + 1, b, hlt', by go_num, by rw [HKN.out], by omega, HO8, HD8, hE7, hW7⟩
        case measure => simp [intOf]; omega
      · obtain rfl : j = l.length := by omega
        go_wp2_with fail
        go_ret
        have h1 := HO.out
        have h2 := HD.out
        rw [row_all] at h1
        rw [List.take_length] at h2
        have hah : a ≤ hi := by rw [List.drop_length] at hE; exact hE
        refine ⟨by rw [List.take_length, ← hN]; push_cast; rfl, ⟨by unfold OwnsR at h1 ⊢; rw [mkRows_len] at h1 ⊢; exact h1, fun k hk => ?_⟩, ensOwn_up h2 hah, hW⟩
        have : g = k := by simpa [Value.ownBlock] using hk
        omega
  · obtain rfl : l = [] := List.length_eq_zero_iff.1 (by omega)
    go_enter Try.func22, Try.ntmps22
    go_wp2_with fail
    refine wp_loop_rounds 1 ?_
    rw [rounds_succ]
    go_wp2_with fail
    go_ret
    exact ⟨by unfold rowsM; rfl, ho, hin, within_refl _ _ _⟩

set_option maxRecDepth 100000 in
set_option maxHeartbeats 8000000 in
theorem heldAll_any (v : Value) (l : List Row) (w : World) (hr : EsReads w v (mkRows 1 l)) (hm : rowsM l ≤ 4194304) (hs : ∀ x ∈ l, EnSmall x.e) :
    Calls Try.prog 23 #[v, .int .i64 1] w fun x w' => x = .returned (.int .i64 (1 + rowsM l)) ∧ Below w.heap.size w w' := by
  have hN := rowsN_M l
  obtain ⟨ao, cap, rfl⟩ := readsR_shape hr.rows
  have hL := mkRows_len l 1
  rw [hL] at hr ⊢
  have hmlen : (l.length : Int) ≤ 4194304 := by have := rowsM_len l; omega
  go_enter Try.func23, Try.ntmps23
  go_wp2_with fail
  go_loopw [1, 5] (fun c i wr => ∃ j : Nat, j ≤ l.length ∧ i = .int .i64 j ∧ c = .int .i64 ((1 + rowsN (l.take j) : Nat) : Int) ∧ Below w.heap.size w wr) (fun _ i _ => l.length - (intOf i).toNat)
  case atStart => exact ⟨0, Nat.zero_le _, rfl, rfl, Below.refl _ _⟩
  case round =>
    obtain ⟨j, hj, rfl, rfl, hB⟩ := hrel
    by_cases hlt : j < l.length
    · have hjl : (j : Int) < (l.length : Int) := by omega
      have hsm := hs _ (esAt_mem hlt)
      have hrt := rowsN_take l j
      rw [drop_es hlt] at hrt
      have hstep : rowsN (l.take (j + 1)) = rowsN (l.take j) + rowN (esAt l j) := by rw [take_es hlt, rowsN_snoc]
      have HST : Hid _ := hstep
      obtain ⟨k, hk⟩ : ∃ k, 1 + rowsN (l.take j) = k := ⟨_, rfl⟩
      have HKK : Hid (1 + rowsN (l.take j) = k) := hk
      have hkb : (k : Int) + (4 + ((esAt l j).e.list.length : Int) + 2 * ((esAt l j).e.scores.length : Int) + 2 * ((esAt l j).e.fields.length : Int)) ≤ 4194305 := by
        have hrt2 : rowsN (l.take j) + (rowN (esAt l j) + rowsN (l.drop (j + 1))) = rowsN l := hrt
        unfold rowN at hrt2
        omega
      have hk0 : (0 : Int) < (k : Int) := by omega
      rw [hk]
      have HJ : Hid ((mkRows 1 l)[j]? = some (mkRow k (esAt l j))) := by
        have h1 := row_put_at (k := 1) hlt
        rw [HKK.out] at h1
        show (mkRows 1 l)[j]? = _
        rw [← mkRows_split l 1 (j + 1)] 
        rw [List.getElem?_append_left (by rw [mkRows_len, List.length_take]; omega)]
        rwa [List.getElem?_append_left (by rw [mkRows_len, List.length_take]; omega)] at h1
      clear hrt hstep hk
      have hjm : j < (mkRows 1 l).length := by rw [hL]; exact hlt
      have hrr : ReadsR rowC 7 w (.slice ao (mkRows 1 l).length cap) (mkRows 1 l) := by rw [hL]; exact hr.rows
      obtain ⟨b, off, rfl, hb, hnc, hcm, hc⟩ := es_some hrr (by omega)
      have hE : esAt (mkRows 1 l) j = mkRow k (esAt l j) := Option.some.inj ((esAt_some hjm).symm.trans HJ.out)
      have hcl := es_cells hc hB hb hjm
      have hin := rowIn_kept (hr.ins _ (esAt_mem hjm)) hB
      rw [hE] at hcl hin
      have hbr : b < wr.heap.size := Nat.lt_of_lt_of_le hb hB.size
      clear hc hnc hcm hrr hE HJ hjm
      have n1 := hsm.list
      have n2 := hsm.scores
      have n3 := hsm.fields
      have e1 : (marks (k + 4) (esAt l j).e.list.length).length = (esAt l j).e.list.length := marks_len _ _
      have e2 : (scMarks (k + 4 + (esAt l j).e.list.length) (esAt l j).e.scores.length).length = (esAt l j).e.scores.length := scMarks_len _ _
      have e3 : (prMarks (k + 4 + (esAt l j).e.list.length + 2 * (esAt l j).e.scores.length) (esAt l j).e.fields.length).length = (esAt l j).e.fields.length := prMarks_len _ _
      have c0 : wr.cell? ⟨b, off + j * 7, none⟩ = some (.string (mk (k : Int))) := hcl.1
      have c1 : wr.cell? ⟨b, off + j * 7 + 1, none⟩ = some (.int .i64 ((k : Int) + 1)) := hcl.2.1
      have c2 : wr.cell? ⟨b, off + j * 7 + 2, none⟩ = some (.int .i64 ((k : Int) + 1 + 1)) := hcl.2.2.1
      have c3 : wr.cell? ⟨b, off + j * 7 + 3, none⟩ = some (.string (mk ((k : Int) + 1 + 1 + 1))) := hcl.2.2.2.1
      have c4 : wr.cell? ⟨b, off + j * 7 + 4, none⟩ = some (.slice (esAt l j).al (esAt l j).e.list.length (esAt l j).cl) := by
        have : wr.cell? ⟨b, off + j * 7 + 4, none⟩ = some (.slice (esAt l j).al (marks (k + 4) (esAt l j).e.list.length).length (esAt l j).cl) := hcl.2.2.2.2.1
        rwa [e1] at this
      have c5 : wr.cell? ⟨b, off + j * 7 + 5, none⟩ = some (.slice (esAt l j).as_ (esAt l j).e.scores.length (esAt l j).cs) := by
        have : wr.cell? ⟨b, off + j * 7 + 5, none⟩ = some (.slice (esAt l j).as_ (scMarks (k + 4 + (esAt l j).e.list.length) (esAt l j).e.scores.length).length (esAt l j).cs) := hcl.2.2.2.2.2.1
        rwa [e2] at this
      have c6 : wr.cell? ⟨b, off + j * 7 + 6, none⟩ = some (.slice (esAt l j).af (esAt l j).e.fields.length (esAt l j).cf) := by
        have : wr.cell? ⟨b, off + j * 7 + 6, none⟩ = some (.slice (esAt l j).af (prMarks (k + 4 + (esAt l j).e.list.length + 2 * (esAt l j).e.scores.length) (esAt l j).e.fields.length).length (esAt l j).cf) := hcl.2.2.2.2.2.2
        rwa [e3] at this
      have RL : Hid (Reads wr (.slice (esAt l j).al (esAt l j).e.list.length (esAt l j).cl) (marks (k + 4) (esAt l j).e.list.length)) := by
        have : Reads wr (.slice (esAt l j).al (marks (k + 4) (esAt l j).e.list.length).length (esAt l j).cl) (marks (k + 4) (esAt l j).e.list.length) := hin.l
        rwa [e1] at this
      have RS : Hid (ScReads wr (.slice (esAt l j).as_ (esAt l j).e.scores.length (esAt l j).cs) (scMarks (k + 4 + (esAt l j).e.list.length) (esAt l j).e.scores.length)) := by
        have : ScReads wr (.slice (esAt l j).as_ (scMarks (k + 4 + (esAt l j).e.list.length) (esAt l j).e.scores.length).length (esAt l j).cs) (scMarks (k + 4 + (esAt l j).e.list.length) (esAt l j).e.scores.length) := hin.s
        rwa [e2] at this
      have RF : Hid (PrReads wr (.slice (esAt l j).af (esAt l j).e.fields.length (esAt l j).cf) (prMarks (k + 4 + (esAt l j).e.list.length + 2 * (esAt l j).e.scores.length) (esAt l j).e.fields.length)) := by
        have : PrReads wr (.slice (esAt l j).af (prMarks (k + 4 + (esAt l j).e.list.length + 2 * (esAt l j).e.scores.length) (esAt l j).e.fields.length).length (esAt l j).cf) (prMarks (k + 4 + (esAt l j).e.list.length + 2 * (esAt l j).e.scores.length) (esAt l j).e.fields.length) := hin.f
        rwa [e3] at this
      have hne0 := ne_self (mk (k : Int))
      have hne3 := ne_self (mk ((k : Int) + 1 + 1 + 1))
      have hn1 : ((k : Int) + 1 != (k : Int) + 1) = false := by simp
      have hn2 : ((k : Int) + 1 + 1 != (k : Int) + 1 + 1) = false := by simp
      clear hcl hin e1 e2 e3
      go_wp2_with fail
      go_region_held3 (fun w' => w'.cell? ⟨b, off + j * 7, none⟩ = some (.string (mk (k : Int))) ∧ Below wr.heap.size wr w') (first | exact ⟨c0, (Below.refl _ _).drew⟩ | assumption | go_keep) (first
        | (go_at_call 35; refine (mark_any _ _ (by omega) (by omega)).mono ?_; rintro e w3 ⟨rfl, hb3⟩; have hk3 := held_on hbr hb3 ‹_›))
      have hS3 : Below wr.heap.size wr w3 := hk3.2
      have HS3 : Hid _ := hS3
      have hbr3 : b < w3.heap.size := Nat.lt_of_lt_of_le hbr hS3.size
      have d1 := (hS3.cell (p := ⟨b, off + j * 7 + 1, none⟩) hbr).trans c1
      have d2 := (hS3.cell (p := ⟨b, off + j * 7 + 2, none⟩) hbr).trans c2
      have d3 := (hS3.cell (p := ⟨b, off + j * 7 + 3, none⟩) hbr).trans c3
      clear hk3 hb3 c0 c1 c2 c3 hS3
      go_wp2_with fail
      go_region_held3 (fun w' => w'.cell? ⟨b, off + j * 7 + 3, none⟩ = some (.string (mk ((k : Int) + 1 + 1 + 1))) ∧ Below w3.heap.size w3 w') (first | exact ⟨d3, (Below.refl _ _).drew⟩ | assumption | go_keep) (first
        | (go_at_call 35; refine (mark_any _ _ (by omega) (by omega)).mono ?_; rintro e w5 ⟨rfl, hb5⟩; have hk5 := held_on hbr3 hb5 ‹_›))
      have hS5 : Below wr.heap.size wr w5 := HS3.out.trans (hk5.2.mono HS3.out.size)
      have HS5 : Hid _ := hS5
      have d4 := (hS5.cell (p := ⟨b, off + j * 7 + 4, none⟩) hbr).trans c4
      have hc := heldS_any _ (esAt l j).e.list.length (k + 4) _ (reads_kept RL.out hS5) (by omega) (by omega) n1
      rw [show ((k + 4 : Nat) : Int) = (k : Int) + 1 + 1 + 1 + 1 by omega] at hc
      clear hk5 hb5 d1 d2 d3 hS5 HS3 c4
      go_wp2_with fail
      refine hc.mono ?_
      rintro x w6 ⟨rfl, hb6⟩
      have hS6 : Below wr.heap.size wr w6 := HS5.out.trans (hb6.mono HS5.out.size)
      have HS6 : Hid _ := hS6
      have d5 := (hS6.cell (p := ⟨b, off + j * 7 + 5, none⟩) hbr).trans c5
      have hc := heldScoreS_any _ (esAt l j).e.scores.length (k + 4 + (esAt l j).e.list.length) _ (readsR_kept RS.out hS6) (by omega) (by omega) n2
      rw [show ((k + 4 + (esAt l j).e.list.length : Nat) : Int) = (k : Int) + 1 + 1 + 1 + 1 + ((esAt l j).e.list.length : Int) by omega] at hc
      clear hb6 d4 hS6 HS5 c5
      go_wp2_with fail
      refine hc.mono ?_
      rintro x w7 ⟨rfl, hb7⟩
      have hS7 : Below wr.heap.size wr w7 := HS6.out.trans (hb7.mono HS6.out.size)
      have HS7 : Hid _ := hS7
      have d6 := (hS7.cell (p := ⟨b, off + j * 7 + 6, none⟩) hbr).trans c6
      have hc := heldPairS_any _ (esAt l j).e.fields.length (k + 4 + (esAt l j).e.list.length + 2 * (esAt l j).e.scores.length) _ (readsR_kept RF.out hS7) (by omega) (by omega) n3
      rw [show ((k + 4 + (esAt l j).e.list.length + 2 * (esAt l j).e.scores.length : Nat) : Int) = (k : Int) + 1 + 1 + 1 + 1 + ((esAt l j).e.list.length : Int) + 2 * ((esAt l j).e.scores.length : Int) by omega] at hc
      clear hb7 d5 hS7 HS6 c6
      go_wp2_with fail
      refine hc.mono ?_
      rintro x w8 ⟨rfl, hb8⟩
      have hB8 : Below w.heap.size w w8 := hB.trans ((HS7.out.trans (hb8.mono HS7.out.size)).mono hB.size)
      have hkk : ((1 + rowsN (l.take (j + 1)) : Nat) : Int) = (k : Int) + 1 + 1 + 1 + 1 + ((esAt l j).e.list.length : Int) + 2 * ((esAt l j).e.scores.length : Int) + 2 * ((esAt l j).e.fields.length : Int) := by
        have h1 := HST.out
        have h2 := HKK.out
        rw [h1]
        unfold rowN
        omega
      have HKN : Hid _ := hkk
      clear hb8 d6 HS7 hkk hc hB
      go_wp2_with fail
      go_roundw
      case rel => exact ⟨j + 1, hlt, by go_num, by rw [HKN.out], hB8⟩
      case measure => simp [intOf]; omega
    · obtain rfl : j = l.length := by omega
      go_wp2_with fail
      go_ret
      exact ⟨by rw [List.take_length, ← hN]; push_cast; rfl, hB⟩
end Go.Proofs.Ytnaklhompdcgeaa
