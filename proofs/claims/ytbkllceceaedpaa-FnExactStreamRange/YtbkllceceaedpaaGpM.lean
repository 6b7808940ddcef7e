/- Groups marked, and asked for again: their outer block may lie anywhere; that it is none of their lists' its type tells. -/
import Derived.Test.YtbkllceceaedpaaGpC
import Derived.Test.YtbkllceceaedpaaWtn
import Derived.Test.YtbkllceceaedpaaStM
namespace Go.Proofs.Ytbkllceceaedpaa
open Go.RowKit
set_option linter.unusedVariables false

/-- rows and their lists, all of them within a stretch -/
structure GpG (w : World) (lo hi : Nat) (v : Value) (l : List GpRow) : Prop where
  rows : OwnR gpC 4 65 w lo hi v l
  ins : GpsOwn w lo hi l
theorem gpOwn1_low (w : World) : ∀ (lo lo' hi : Nat) (x : GpRow), lo' ≤ lo → gpOwn1 w lo hi x → gpOwn1 w lo' hi x := fun _ _ _ _ h h1 => ⟨ownR_lower h1.1 h (Nat.le_refl _), Nat.le_trans h h1.2⟩
theorem gpG_of {w : World} {lo hi : Nat} {v : Value} {l : List GpRow} (h : GpFor w lo hi v l) : GpG w lo hi v l := by
  obtain ⟨m, h1, h2, h3, h4⟩ := h
  exact ⟨ownR_lower h3 (Nat.le_refl _) h2, chain_low (gpOwn1_low w) h1 h4⟩
theorem gpG_reads {w : World} {lo hi : Nat} {v : Value} {l : List GpRow} (h : GpG w lo hi v l) : GpsReads w v l := ⟨ownR_reads gpC_len h.rows, gpsOwn_ins h.ins⟩
theorem gpG_kept {w w' : World} {lo hi : Nat} {v : Value} {l : List GpRow} (h : GpG w lo hi v l) (hb : Below w.heap.size w w') : GpG w' lo hi v l := ⟨ownR_kept h.rows hb, gpsOwn_kept h.ins hb⟩
theorem gpsOwn_apart {w w' : World} {p q lo hi : Nat} {l : List GpRow} (hw : Within w w' p q) (hap : hi ≤ p ∨ q ≤ lo) (h : GpsOwn w lo hi l) : GpsOwn w' lo hi l :=
  chain_apart (fun _ _ _ h => h.2) (fun _ _ _ hap h => ⟨ownR_within h.1 hw hap, h.2⟩) hap h
theorem gpG_within {w w' : World} {lo hi p q : Nat} {v : Value} {l : List GpRow} (h : GpG w lo hi v l) (hw : Within w w' p q) (hap : hi ≤ p ∨ q ≤ lo) : GpG w' lo hi v l := ⟨ownR_within h.rows hw hap, gpsOwn_apart hw hap h.ins⟩
theorem gpG_lower {w : World} {lo lo' hi hi' : Nat} {v : Value} {l : List GpRow} (h : GpG w lo hi v l) (hl : lo' ≤ lo) (hh : hi ≤ hi') : GpG w lo' hi' v l := ⟨ownR_lower h.rows hl hh, chain_low (gpOwn1_low w) hl (chain_top hh h.ins)⟩
/-- a change in the outer block leaves the lists -/
theorem gpsOwn_outer {w w' : World} {g lo hi : Nat} {l : List GpRow} (hg : ∃ cs, w.heap[g]? = some (.cells cs 65 (0, 0))) (hw : w.grownBy w' (some g)) (h : GpsOwn w lo hi l) : GpsOwn w' lo hi l :=
  chain_map (B := 0) (fun _ _ _ _ h1 => ⟨⟨World.ownsRow.kept h1.1.1 hw (.inr (ownR_other (by decide) hg h1.1)), h1.1.2⟩, h1.2⟩) (Nat.zero_le _) h

def gpN (x : GpE) : Nat := 3 + 5 * x.l.length
def gpMkE (k : Nat) (x : GpE) : GpE := ⟨mk (k : Int), (k : Int) + 1, (k : Int) + 1 + 1, wtMarks (k + 3) x.l.length⟩
def gpMk (k : Nat) (x : GpRow) : GpRow := ⟨gpMkE k x.e, x.a, x.c⟩
def gpMks : Nat → List GpRow → List GpRow
  | _, [] => []
  | k, x :: l => gpMk k x :: gpMks (k + gpN x.e) l
def gpsN : List GpRow → Nat
  | [] => 0
  | x :: l => gpN x.e + gpsN l
theorem gpMk_l (k : Nat) (x : GpRow) : (gpMk k x).e.l.length = x.e.l.length := wtMarks_len _ _
theorem gpMks_len : ∀ (l : List GpRow) (k : Nat), (gpMks k l).length = l.length
  | [], _ => rfl
  | x :: l, k => by unfold gpMks; rw [List.length_cons, List.length_cons, gpMks_len l]
theorem gpMks_snoc : ∀ (l : List GpRow) (k : Nat) (x : GpRow), gpMks k (l ++ [x]) = gpMks k l ++ [gpMk (k + gpsN l) x]
  | [], k, x => by show gpMk k x :: [] = [] ++ [gpMk (k + 0) x]; rfl
  | y :: l, k, x => by
    show gpMk k y :: gpMks (k + gpN y.e) (l ++ [x]) = (gpMk k y :: gpMks (k + gpN y.e) l) ++ [gpMk (k + (gpN y.e + gpsN l)) x]
    rw [gpMks_snoc l, Nat.add_assoc]; rfl
theorem gpsN_snoc : ∀ (l : List GpRow) (x : GpRow), gpsN (l ++ [x]) = gpsN l + gpN x.e
  | [], x => by show gpN x.e + 0 = 0 + gpN x.e; omega
  | y :: l, x => by show gpN y.e + gpsN (l ++ [x]) = gpN y.e + gpsN l + gpN x.e; rw [gpsN_snoc l]; omega
theorem gpsN_take : ∀ (l : List GpRow) (j : Nat), gpsN (l.take j) + gpsN (l.drop j) = gpsN l
  | [], j => by simp [gpsN]
  | x :: l, 0 => by simp [gpsN]
  | x :: l, j + 1 => by
    have := gpsN_take l j
    rw [List.take_succ_cons, List.drop_succ_cons]
    show gpN x.e + gpsN (l.take j) + gpsN (l.drop j) = gpN x.e + gpsN l
    omega
theorem gp_take {l : List GpRow} {j : Nat} (h : j < l.length) : l.take (j + 1) = l.take j ++ [gpAt l j] := by rw [List.take_succ_eq_append_getElem h, gpAt_get h]
theorem gp_drop {l : List GpRow} {j : Nat} (h : j < l.length) : l.drop j = gpAt l j :: l.drop (j + 1) := by rw [List.drop_eq_getElem_cons h, gpAt_get h]
theorem gp_mid {l : List GpRow} {j k : Nat} (h : j < l.length) : (gpMks k (l.take j) ++ l.drop j)[j]? = some (gpAt l j) := by
  have hl : (gpMks k (l.take j)).length = j := by rw [gpMks_len, List.length_take]; omega
  rw [List.getElem?_append_right (by omega), hl, Nat.sub_self, gp_drop h]; rfl
theorem gp_put {l : List GpRow} {j k : Nat} (h : j < l.length) : (gpMks k (l.take j) ++ l.drop j).set j (gpMk (k + gpsN (l.take j)) (gpAt l j)) = gpMks k (l.take (j + 1)) ++ l.drop (j + 1) := by
  have hl : (gpMks k (l.take j)).length = j := by rw [gpMks_len, List.length_take]; omega
  rw [List.set_append_right _ _ (by omega), hl, Nat.sub_self, gp_drop h, List.set_cons_zero, gp_take h, gpMks_snoc, List.append_assoc]; rfl
theorem gp_mlen {l : List GpRow} {j k : Nat} (h : j ≤ l.length) : (gpMks k (l.take j) ++ l.drop j).length = l.length := by
  rw [List.length_append, gpMks_len, List.length_take, List.length_drop]; omega
theorem markWait_own (v : Value) (l : List Wt) (lo hi : Nat) (k : Int) (w : World) (ho : WtOwn w lo hi v l) (hk : 0 < k) (hk2 : k + 5 * (l.length : Int) ≤ 8000000) (hlen : l.length ≤ 1048576) :
    Calls Try.prog 28 #[v, .int .i64 k] w fun e w' => e = .returned (.int .i64 (k + 5 * (l.length : Int))) ∧ WtOwn w' lo hi v (wtMarks k.toNat l.length) ∧ w.grownBy w' v.ownBlock := by
  obtain ⟨K, rfl⟩ := Int.eq_ofNat_of_zero_le (show 0 ≤ k by omega)
  exact (markWaitS_any v l lo K w ho.1 (by omega) (by omega) hlen).mono fun _ _ ⟨h, ho2, hg⟩ => ⟨h, ⟨ho2, ho.2⟩, hg⟩

set_option maxRecDepth 100000 in
set_option maxHeartbeats 8000000 in
theorem markGroupS_any (v : Value) (l : List GpRow) (lo hi k : Nat) (w : World) (ho : GpG w lo hi v l) (hhi : hi ≤ w.heap.size) (hk : 0 < k) (hm : k + gpsN l ≤ 8000000) (hs : GpsSmall l) :
    Calls Try.prog 52 #[v, .int .i64 (k : Int)] w fun e w' => e = .returned (.int .i64 ((k + gpsN l : Nat) : Int)) ∧ GpG w' lo hi v (gpMks k l) ∧ Within w w' lo hi := by
  obtain ⟨ao, cap, rfl⟩ := readsR_shape (gpG_reads ho).rows
  by_cases h0 : 0 < l.length
  · obtain ⟨g, hgv⟩ : ∃ g, ao = some ⟨g, 0, none⟩ := by
      rcases ho.rows.1.2 with ⟨h, _⟩ | ⟨g, cap', cur, hv, _⟩
      · simp only [Value.slice.injEq] at h; omega
      · simp only [Value.slice.injEq, true_and] at hv; exact ⟨g, hv.1⟩
    subst hgv
    have hg1 := (World.ownsRow.lt ho.rows.1 g rfl).1
    have hg2 : g < hi := ho.rows.2 g rfl
    have hlen := hs.len
    have HO0 : Hid (OwnsR gpC 4 65 w lo (.slice (some ⟨g, 0, none⟩) l.length cap) (gpMks k (l.take 0) ++ l.drop 0)) := ho.rows.1
    have HI0 : GpsOwn w lo hi (l.drop 0) := ho.ins
    have hlohi := chain_le ho.ins
    clear ho
    go_enter Try.func52, Try.ntmps52
    go_wp2_with fail
    go_loopw [1, 5] (fun c i wr => ∃ (j a : Nat), j ≤ l.length ∧ i = .int .i64 j ∧ c = .int .i64 ((k + gpsN (l.take j) : Nat) : Int) ∧ lo ≤ a ∧ Hid (OwnsR gpC 4 65 wr lo (.slice (some ⟨g, 0, none⟩) l.length cap) (gpMks k (l.take j) ++ l.drop j)) ∧ Hid (GpsOwn wr lo a (gpMks k (l.take j))) ∧ GpsOwn wr a hi (l.drop j) ∧ Within w wr lo hi) (fun _ i _ => l.length - (intOf i).toNat)
    case atStart => exact ⟨0, lo, Nat.zero_le _, rfl, rfl, Nat.le_refl _, HO0, Nat.le_refl lo, HI0, within_refl _ _ _⟩
    case round =>
      clear HO0 HI0
      obtain ⟨j, a, hj, rfl, rfl, hla, HO, HD, hE, hW⟩ := hrel
      by_cases hlt : j < l.length
      · have hjl : (j : Int) < (l.length : Int) := by omega
        have hsm := (hs.each _ (gpAt_mem hlt)).len
        have hrt := gpsN_take l j
        rw [gp_drop hlt] at hE hrt
        obtain ⟨b, hab, hX, hE⟩ := hE
        have hbi := chain_le hE
        have hX2b := hX.2
        have HST : Hid (gpsN (l.take (j + 1)) = gpsN (l.take j) + gpN (gpAt l j).e) := by show _ = _; rw [gp_take hlt, gpsN_snoc]
        have HSNOC : Hid (gpMks k (l.take (j + 1)) = gpMks k (l.take j) ++ [gpMk (k + gpsN (l.take j)) (gpAt l j)]) := by show _ = _; rw [gp_take hlt, gpMks_snoc]
        have hMl : (gpMks k (l.take j) ++ l.drop j).length = l.length := gp_mlen hj
        have HML : Hid ((gpMks k (l.take j) ++ l.drop j).length = l.length) := hMl
        have HM : Hid ((gpMks k (l.take j) ++ l.drop j)[j]? = some (gpAt l j)) := gp_mid hlt
        have HP : Hid ((gpMks k (l.take j) ++ l.drop j).set j (gpMk (k + gpsN (l.take j)) (gpAt l j)) = gpMks k (l.take (j + 1)) ++ l.drop (j + 1)) := gp_put hlt
        have hkb : k + gpsN (l.take j) + gpN (gpAt l j).e ≤ k + gpsN l := by
          have hrt2 : gpsN (l.take j) + (gpN (gpAt l j).e + gpsN (l.drop (j + 1))) = gpsN l := hrt
          omega
        obtain ⟨K, hK⟩ : ∃ K, k + gpsN (l.take j) = K := ⟨_, rfl⟩
        have HK : Hid (k + gpsN (l.take j) = K) := hK
        have hK0 : 0 < K := by omega
        rw [hK] at hkb HSNOC HP ⊢
        unfold gpN at hkb
        obtain ⟨M, hMM⟩ : ∃ M, gpMks k (l.take j) ++ l.drop j = M := ⟨_, rfl⟩
        rw [hMM] at HO HM HML HP
        have hgr := ownsR_rowG HO.out
        have hK1 : (0 : Int) < (K : Int) := by omega
        clear hrt hMl hMM hK
        have hKm : (K : Int) ≤ 8000000 := by omega
        go_wp2_with fail
        refine (mark_any _ _ hK1 (by omega)).mono ?_
        rintro e w1 ⟨rfl, hb1⟩
        have HO1 : Hid (OwnsR gpC 4 65 w1 lo (.slice (some ⟨g, 0, none⟩) l.length cap) M) := ownsR_kept HO.out hb1
        have HD1 : Hid _ := gpsOwn_kept HD.out hb1
        have hX1 : gpOwn1 w1 a b (gpAt l j) := ⟨ownR_kept hX.1 hb1, hX.2⟩
        have hE1 := gpsOwn_kept hE hb1
        have hW1 := within_trans hW (within_below hb1 lo hi)
        have hgr1 : ∃ cs, w1.heap[g]? = some (.cells cs 65 (0, 0)) := ownsR_rowG HO1.out
        clear hb1 HO HD hX hE hW hgr
        have f0 := row_frozen HO1.out HML.out (j * 4)
        have f1 := row_frozen HO1.out HML.out (j * 4 + 1)
        have f2 := row_frozen HO1.out HML.out (j * 4 + 2)
        have c0 : w1.cell? ⟨g, j * 4, none⟩ = some (.string (gpAt l j).e.name) := row_at_len gpC_len HO1.out HML.out HM.out 0 _ rfl
        have c1 : w1.cell? ⟨g, j * 4 + 1, none⟩ = some (.int .i64 (gpAt l j).e.t) := row_at_len gpC_len HO1.out HML.out HM.out 1 _ rfl
        have c2 : w1.cell? ⟨g, j * 4 + 2, none⟩ = some (.int .i64 (gpAt l j).e.n) := row_at_len gpC_len HO1.out HML.out HM.out 2 _ rfl
        have c3 : w1.cell? ⟨g, j * 4 + 3, none⟩ = some (.slice (gpAt l j).a (gpAt l j).e.l.length (gpAt l j).c) := row_at_len gpC_len HO1.out HML.out HM.out 3 _ rfl
        have hvs : setsAt (gpC (gpAt l j)) 0 [.string (mk (K : Int)), .int .i64 ((K : Int) + 1), .int .i64 ((K : Int) + 1 + 1)] = gpC (gpMk K (gpAt l j)) := by
          unfold gpC; rw [gpMk_l]; rfl
        have HO2 : Hid _ := rows_part gpC_len HO1.out HML.out j _ (gpMk K (gpAt l j)) HM.out 0 [.string (mk (K : Int)), .int .i64 ((K : Int) + 1), .int .i64 ((K : Int) + 1 + 1)] (by simp) hvs
        have hgw := puts_grown (g := g) [.string (mk (K : Int)), .int .i64 ((K : Int) + 1), .int .i64 ((K : Int) + 1 + 1)] w1 (j * 4 + 0)
        have HD2 : Hid _ := gpsOwn_outer hgr1 hgw HD1.out
        have hX2 : gpOwn1 _ a b (gpAt l j) := ⟨⟨World.ownsRow.kept hX1.1.1 hgw (.inr (ownR_other (by decide) hgr1 hX1.1)), hX1.1.2⟩, hX1.2⟩
        have hE2 := gpsOwn_outer hgr1 hgw hE1
        have hW2 := within_trans hW1 (within_grown (lo := lo) (hi := hi) hgw (fun q hq => by cases hq; exact ⟨hg1, hg2⟩))
        clear HO1 HD1 hX1 hE1 hW1 hgr1
        rw [HP.out] at HO2
        have HC : Hid (((k + gpsN (l.take (j + 1)) : Nat) : Int) = (K : Int) + 1 + 1 + 1 + 5 * ((gpAt l j).e.l.length : Int)) := by show _ = _; rw [HST.out, ← Nat.add_assoc, HK.out]; unfold gpN; omega
        have hv : (gpMk K (gpAt l j)).v = (gpAt l j).v := by unfold GpRow.v; rw [gpMk_l]; rfl
        go_wp2_with fail
        clear c0 c1 c2 c3 f0 f1 f2
        refine (markWait_own _ (gpAt l j).e.l a b _ _ hX2.1 (by omega) (by omega) hsm).mono ?_
        rintro e w3 ⟨rfl, hx3, hg3⟩
        have V3 := within_grown hg3 (ownR_in hX2.1)
        have hne := ownR_other (by decide) (ownsR_rowG HO2.out) hX2.1
        have HO3 : Hid (OwnsR gpC 4 65 w3 lo (.slice (some ⟨g, 0, none⟩) l.length cap) (gpMks k (l.take (j + 1)) ++ l.drop (j + 1))) := World.ownsRow.kept HO2.out hg3 (.inr (fun e => hne e.symm))
        have hD3 := gpsOwn_apart V3 (.inl (Nat.le_refl a)) HD2.out
        have hE3 := gpsOwn_apart V3 (.inr (Nat.le_refl b)) hE2
        have hX3 : WtOwn w3 a b (gpMk K (gpAt l j)).v (gpMk K (gpAt l j)).e.l := by
          rw [hv]; show WtOwn w3 a b _ (wtMarks (K + 3) _); rw [show K + 3 = ((K : Int) + 1 + 1 + 1).toNat by omega]; exact hx3
        have hD4 := gpsOwn_snoc (x := gpMk K (gpAt l j)) hD3 hX3 hX2.2
        rw [← HSNOC.out] at hD4
        have HD4 : Hid _ := hD4
        have hW3 := within_trans hW2 (within_mono V3 hla hbi)
        clear V3 hD3 hD4 hX3 hx3 hg3 hW2 hE2 hX2 HD2 HO2 hgw
        go_wp2_with fail
        go_roundw
        case rel => exact ⟨j + 1, b, hlt, by go_num, by rw [HC.out], Nat.le_trans hla hX2b, HO3.out, HD4.out, hE3, hW3⟩
        case measure => simp [intOf]; omega
      · obtain rfl : j = l.length := by omega
        have HE2 : Hid (GpG wr lo hi (.slice (some ⟨g, 0, none⟩) l.length cap) (gpMks k l)) := by
          have h1 := HO.out
          have h2 := HD.out
          rw [List.take_length, List.drop_length, List.append_nil] at h1
          rw [List.take_length] at h2
          refine ⟨⟨h1, fun q hq => by cases hq; exact hg2⟩, chain_top ?_ h2⟩
          have := chain_le hE; exact this
        rw [List.take_length]
        go_wp2_with fail
        go_ret
        exact ⟨rfl, HE2.out, hW⟩
  · have hl0 : l = [] := List.length_eq_zero_iff.1 (by omega)
    subst hl0
    go_enter Try.func52, Try.ntmps52
    go_wp2_with fail
    refine wp_loop_rounds 1 ?_
    rw [rounds_succ]
    go_wp2_with fail
    go_ret
    exact ⟨rfl, ho, within_refl _ _ _⟩
end Go.Proofs.Ytbkllceceaedpaa
