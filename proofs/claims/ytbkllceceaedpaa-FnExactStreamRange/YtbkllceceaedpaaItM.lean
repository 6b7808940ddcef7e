/- Items marked, and asked for again: their outer block may lie anywhere; that it is none of their lists' its type tells. -/
import Derived.Test.YtbkllceceaedpaaItC
import Derived.Test.YtbkllceceaedpaaWtn
import Derived.Test.YtbkllceceaedpaaStM
import Derived.Test.YtbkllceceaedpaaPrM
namespace Go.Proofs.Ytbkllceceaedpaa
open Go.RowKit
set_option linter.unusedVariables false

/-- rows and their lists, all of them within a stretch -/
structure ItG (w : World) (lo hi : Nat) (v : Value) (l : List ItRow) : Prop where
  rows : OwnR itC 3 59 w lo hi v l
  ins : ItsOwn w lo hi l
theorem itOwn1_low (w : World) : ∀ (lo lo' hi : Nat) (x : ItRow), lo' ≤ lo → itOwn1 w lo hi x → itOwn1 w lo' hi x := fun _ _ _ _ h h1 => ⟨ownR_lower h1.1 h (Nat.le_refl _), Nat.le_trans h h1.2⟩
theorem itG_of {w : World} {lo hi : Nat} {v : Value} {l : List ItRow} (h : ItFor w lo hi v l) : ItG w lo hi v l := by
  obtain ⟨m, h1, h2, h3, h4⟩ := h
  exact ⟨ownR_lower h3 (Nat.le_refl _) h2, chain_low (itOwn1_low w) h1 h4⟩
theorem itG_reads {w : World} {lo hi : Nat} {v : Value} {l : List ItRow} (h : ItG w lo hi v l) : ItsReads w v l := ⟨ownR_reads itC_len h.rows, itsOwn_ins h.ins⟩
theorem itG_kept {w w' : World} {lo hi : Nat} {v : Value} {l : List ItRow} (h : ItG w lo hi v l) (hb : Below w.heap.size w w') : ItG w' lo hi v l := ⟨ownR_kept h.rows hb, itsOwn_kept h.ins hb⟩
theorem itsOwn_apart {w w' : World} {p q lo hi : Nat} {l : List ItRow} (hw : Within w w' p q) (hap : hi ≤ p ∨ q ≤ lo) (h : ItsOwn w lo hi l) : ItsOwn w' lo hi l :=
  chain_apart (fun _ _ _ h => h.2) (fun _ _ _ hap h => ⟨ownR_within h.1 hw hap, h.2⟩) hap h
theorem itG_within {w w' : World} {lo hi p q : Nat} {v : Value} {l : List ItRow} (h : ItG w lo hi v l) (hw : Within w w' p q) (hap : hi ≤ p ∨ q ≤ lo) : ItG w' lo hi v l := ⟨ownR_within h.rows hw hap, itsOwn_apart hw hap h.ins⟩
theorem itG_lower {w : World} {lo lo' hi hi' : Nat} {v : Value} {l : List ItRow} (h : ItG w lo hi v l) (hl : lo' ≤ lo) (hh : hi ≤ hi') : ItG w lo' hi' v l := ⟨ownR_lower h.rows hl hh, chain_low (itOwn1_low w) hl (chain_top hh h.ins)⟩
/-- a change in the outer block leaves the lists -/
theorem itsOwn_outer {w w' : World} {g lo hi : Nat} {l : List ItRow} (hg : ∃ cs, w.heap[g]? = some (.cells cs 59 (0, 0))) (hw : w.grownBy w' (some g)) (h : ItsOwn w lo hi l) : ItsOwn w' lo hi l :=
  chain_map (B := 0) (fun _ _ _ _ h1 => ⟨⟨World.ownsRow.kept h1.1.1 hw (.inr (ownR_other (by decide) hg h1.1)), h1.1.2⟩, h1.2⟩) (Nat.zero_le _) h

def itN (x : ItE) : Nat := 2 + 2 * x.l.length
def itMkE (k : Nat) (x : ItE) : ItE := ⟨(k : Int), (k : Int) + 1, prMarks (k + 2) x.l.length⟩
def itMk (k : Nat) (x : ItRow) : ItRow := ⟨itMkE k x.e, x.a, x.c⟩
def itMks : Nat → List ItRow → List ItRow
  | _, [] => []
  | k, x :: l => itMk k x :: itMks (k + itN x.e) l
def itsN : List ItRow → Nat
  | [] => 0
  | x :: l => itN x.e + itsN l
theorem itMk_l (k : Nat) (x : ItRow) : (itMk k x).e.l.length = x.e.l.length := prMarks_len _ _
theorem itMks_len : ∀ (l : List ItRow) (k : Nat), (itMks k l).length = l.length
  | [], _ => rfl
  | x :: l, k => by unfold itMks; rw [List.length_cons, List.length_cons, itMks_len l]
theorem itMks_snoc : ∀ (l : List ItRow) (k : Nat) (x : ItRow), itMks k (l ++ [x]) = itMks k l ++ [itMk (k + itsN l) x]
  | [], k, x => by show itMk k x :: [] = [] ++ [itMk (k + 0) x]; rfl
  | y :: l, k, x => by
    show itMk k y :: itMks (k + itN y.e) (l ++ [x]) = (itMk k y :: itMks (k + itN y.e) l) ++ [itMk (k + (itN y.e + itsN l)) x]
    rw [itMks_snoc l, Nat.add_assoc]; rfl
theorem itsN_snoc : ∀ (l : List ItRow) (x : ItRow), itsN (l ++ [x]) = itsN l + itN x.e
  | [], x => by show itN x.e + 0 = 0 + itN x.e; omega
  | y :: l, x => by show itN y.e + itsN (l ++ [x]) = itN y.e + itsN l + itN x.e; rw [itsN_snoc l]; omega
theorem itsN_take : ∀ (l : List ItRow) (j : Nat), itsN (l.take j) + itsN (l.drop j) = itsN l
  | [], j => by simp [itsN]
  | x :: l, 0 => by simp [itsN]
  | x :: l, j + 1 => by
    have := itsN_take l j
    rw [List.take_succ_cons, List.drop_succ_cons]
    show itN x.e + itsN (l.take j) + itsN (l.drop j) = itN x.e + itsN l
    omega
theorem it_take {l : List ItRow} {j : Nat} (h : j < l.length) : l.take (j + 1) = l.take j ++ [itAt l j] := by rw [List.take_succ_eq_append_getElem h, itAt_get h]
theorem it_drop {l : List ItRow} {j : Nat} (h : j < l.length) : l.drop j = itAt l j :: l.drop (j + 1) := by rw [List.drop_eq_getElem_cons h, itAt_get h]
theorem it_mid {l : List ItRow} {j k : Nat} (h : j < l.length) : (itMks k (l.take j) ++ l.drop j)[j]? = some (itAt l j) := by
  have hl : (itMks k (l.take j)).length = j := by rw [itMks_len, List.length_take]; omega
  rw [List.getElem?_append_right (by omega), hl, Nat.sub_self, it_drop h]; rfl
theorem it_put {l : List ItRow} {j k : Nat} (h : j < l.length) : (itMks k (l.take j) ++ l.drop j).set j (itMk (k + itsN (l.take j)) (itAt l j)) = itMks k (l.take (j + 1)) ++ l.drop (j + 1) := by
  have hl : (itMks k (l.take j)).length = j := by rw [itMks_len, List.length_take]; omega
  rw [List.set_append_right _ _ (by omega), hl, Nat.sub_self, it_drop h, List.set_cons_zero, it_take h, itMks_snoc, List.append_assoc]; rfl
theorem it_mlen {l : List ItRow} {j k : Nat} (h : j ≤ l.length) : (itMks k (l.take j) ++ l.drop j).length = l.length := by
  rw [List.length_append, itMks_len, List.length_take, List.length_drop]; omega

set_option maxRecDepth 100000 in
set_option maxHeartbeats 8000000 in
theorem markItemS_any (v : Value) (l : List ItRow) (lo hi k : Nat) (w : World) (ho : ItG w lo hi v l) (hhi : hi ≤ w.heap.size) (hk : 0 < k) (hm : k + itsN l ≤ 6000000) (hs : ItsSmall l) :
    Calls Try.prog 18 #[v, .int .i64 (k : Int)] w fun e w' => e = .returned (.int .i64 ((k + itsN l : Nat) : Int)) ∧ ItG w' lo hi v (itMks k l) ∧ Within w w' lo hi := by
  obtain ⟨ao, cap, rfl⟩ := readsR_shape (itG_reads ho).rows
  by_cases h0 : 0 < l.length
  · obtain ⟨g, hgv⟩ : ∃ g, ao = some ⟨g, 0, none⟩ := by
      rcases ho.rows.1.2 with ⟨h, _⟩ | ⟨g, cap', cur, hv, _⟩
      · simp only [Value.slice.injEq] at h; omega
      · simp only [Value.slice.injEq, true_and] at hv; exact ⟨g, hv.1⟩
    subst hgv
    have hg1 := (World.ownsRow.lt ho.rows.1 g rfl).1
    have hg2 : g < hi := ho.rows.2 g rfl
    have hlen := hs.len
    have HO0 : Hid (OwnsR itC 3 59 w lo (.slice (some ⟨g, 0, none⟩) l.length cap) (itMks k (l.take 0) ++ l.drop 0)) := ho.rows.1
    have HI0 : ItsOwn w lo hi (l.drop 0) := ho.ins
    have hlohi := chain_le ho.ins
    clear ho
    go_enter Try.func18, Try.ntmps18
    go_wp2_with fail
    go_loopw [1, 5] (fun c i wr => ∃ (j a : Nat), j ≤ l.length ∧ i = .int .i64 j ∧ c = .int .i64 ((k + itsN (l.take j) : Nat) : Int) ∧ lo ≤ a ∧ Hid (OwnsR itC 3 59 wr lo (.slice (some ⟨g, 0, none⟩) l.length cap) (itMks k (l.take j) ++ l.drop j)) ∧ Hid (ItsOwn wr lo a (itMks k (l.take j))) ∧ ItsOwn wr a hi (l.drop j) ∧ Within w wr lo hi) (fun _ i _ => l.length - (intOf i).toNat)
    case atStart => exact ⟨0, lo, Nat.zero_le _, rfl, rfl, Nat.le_refl _, HO0, Nat.le_refl lo, HI0, within_refl _ _ _⟩
    case round =>
      clear HO0 HI0
      obtain ⟨j, a, hj, rfl, rfl, hla, HO, HD, hE, hW⟩ := hrel
      by_cases hlt : j < l.length
      · have hjl : (j : Int) < (l.length : Int) := by omega
        have hsm := (hs.each _ (itAt_mem hlt)).len
        have hrt := itsN_take l j
        rw [it_drop hlt] at hE hrt
        obtain ⟨b, hab, hX, hE⟩ := hE
        have hbi := chain_le hE
        have hX2b := hX.2
        have HST : Hid (itsN (l.take (j + 1)) = itsN (l.take j) + itN (itAt l j).e) := by show _ = _; rw [it_take hlt, itsN_snoc]
        have HSNOC : Hid (itMks k (l.take (j + 1)) = itMks k (l.take j) ++ [itMk (k + itsN (l.take j)) (itAt l j)]) := by show _ = _; rw [it_take hlt, itMks_snoc]
        have hMl : (itMks k (l.take j) ++ l.drop j).length = l.length := it_mlen hj
        have HML : Hid ((itMks k (l.take j) ++ l.drop j).length = l.length) := hMl
        have HM : Hid ((itMks k (l.take j) ++ l.drop j)[j]? = some (itAt l j)) := it_mid hlt
        have HP : Hid ((itMks k (l.take j) ++ l.drop j).set j (itMk (k + itsN (l.take j)) (itAt l j)) = itMks k (l.take (j + 1)) ++ l.drop (j + 1)) := it_put hlt
        have hkb : k + itsN (l.take j) + itN (itAt l j).e ≤ k + itsN l := by
          have hrt2 : itsN (l.take j) + (itN (itAt l j).e + itsN (l.drop (j + 1))) = itsN l := hrt
          omega
        obtain ⟨K, hK⟩ : ∃ K, k + itsN (l.take j) = K := ⟨_, rfl⟩
        have HK : Hid (k + itsN (l.take j) = K) := hK
        have hK0 : 0 < K := by omega
        rw [hK] at hkb HSNOC HP ⊢
        unfold itN at hkb
        obtain ⟨M, hMM⟩ : ∃ M, itMks k (l.take j) ++ l.drop j = M := ⟨_, rfl⟩
        rw [hMM] at HO HM HML HP
        have hgr := ownsR_rowG HO.out
        have hK1 : (0 : Int) < (K : Int) := by omega
        clear hrt hMl hMM hK
        have f0 := row_frozen HO.out HML.out (j * 3)
        have f1 := row_frozen HO.out HML.out (j * 3 + 1)
        have c0 : wr.cell? ⟨g, j * 3, none⟩ = some (.int .i64 (itAt l j).e.t) := row_at_len itC_len HO.out HML.out HM.out 0 _ rfl
        have c1 : wr.cell? ⟨g, j * 3 + 1, none⟩ = some (.int .i64 (itAt l j).e.n) := row_at_len itC_len HO.out HML.out HM.out 1 _ rfl
        have c2 : wr.cell? ⟨g, j * 3 + 2, none⟩ = some (.slice (itAt l j).a (itAt l j).e.l.length (itAt l j).c) := row_at_len itC_len HO.out HML.out HM.out 2 _ rfl
        have hvs : setsAt (itC (itAt l j)) 0 [.int .i64 (K : Int), .int .i64 ((K : Int) + 1)] = itC (itMk K (itAt l j)) := by
          unfold itC; rw [itMk_l]; rfl
        have HO2 : Hid _ := rows_part itC_len HO.out HML.out j _ (itMk K (itAt l j)) HM.out 0 [.int .i64 (K : Int), .int .i64 ((K : Int) + 1)] (by simp) hvs
        have hgw := puts_grown (g := g) [.int .i64 (K : Int), .int .i64 ((K : Int) + 1)] wr (j * 3 + 0)
        have HD2 : Hid _ := itsOwn_outer hgr hgw HD.out
        have hX2 : itOwn1 _ a b (itAt l j) := ⟨⟨World.ownsRow.kept hX.1.1 hgw (.inr (ownR_other (by decide) hgr hX.1)), hX.1.2⟩, hX.2⟩
        have hE2 := itsOwn_outer hgr hgw hE
        have hW2 := within_trans hW (within_grown (lo := lo) (hi := hi) hgw (fun q hq => by cases hq; exact ⟨hg1, hg2⟩))
        clear HO HD hX hE hW hgr
        rw [HP.out] at HO2
        have HC : Hid (((k + itsN (l.take (j + 1)) : Nat) : Int) = (K : Int) + 1 + 1 + 2 * ((itAt l j).e.l.length : Int)) := by show _ = _; rw [HST.out, ← Nat.add_assoc, HK.out]; unfold itN; omega
        have hv : (itMk K (itAt l j)).v = (itAt l j).v := by unfold ItRow.v; rw [itMk_l]; rfl
        go_wp2_with fail
        clear c0 c1 c2 f0 f1
        refine (markPair_own _ (itAt l j).e.l a b _ _ hX2.1 (by omega) (by omega) hsm).mono ?_
        rintro e w3 ⟨rfl, hx3, hg3⟩
        have V3 := within_grown hg3 (ownR_in hX2.1)
        have hne := ownR_other (by decide) (ownsR_rowG HO2.out) hX2.1
        have HO3 : Hid (OwnsR itC 3 59 w3 lo (.slice (some ⟨g, 0, none⟩) l.length cap) (itMks k (l.take (j + 1)) ++ l.drop (j + 1))) := World.ownsRow.kept HO2.out hg3 (.inr (fun e => hne e.symm))
        have hD3 := itsOwn_apart V3 (.inl (Nat.le_refl a)) HD2.out
        have hE3 := itsOwn_apart V3 (.inr (Nat.le_refl b)) hE2
        have hX3 : PrOwn w3 a b (itMk K (itAt l j)).v (itMk K (itAt l j)).e.l := by
          rw [hv]; show PrOwn w3 a b _ (prMarks (K + 2) _); rw [show K + 2 = ((K : Int) + 1 + 1).toNat by omega]; exact hx3
        have hD4 := itsOwn_snoc (x := itMk K (itAt l j)) hD3 hX3 hX2.2
        rw [← HSNOC.out] at hD4
        have HD4 : Hid _ := hD4
        have hW3 := within_trans hW2 (within_mono V3 hla hbi)
        clear V3 hD3 hD4 hX3 hx3 hg3 hW2 hE2 hX2 HD2 HO2 hgw
        go_wp2_with fail
        go_roundw
        case rel => exact ⟨j + 1, b, hlt, by go_num, by rw [HC.out], Nat.le_trans hla hX2b, HO3.out, HD4.out, hE3, hW3⟩
        case measure => simp [intOf]; omega
      · obtain rfl : j = l.length := by omega
        have HE2 : Hid (ItG wr lo hi (.slice (some ⟨g, 0, none⟩) l.length cap) (itMks k l)) := by
          have h1 := HO.out
          have h2 := HD.out
          rw [List.take_length, List.drop_length, List.append_nil] at h1
          rw [List.take_length] at h2
          refine ⟨⟨h1, fun q hq => by cases hq; exact hg2⟩, chain_top ?_ h2⟩
          have := chain_le hE; exact this
        rw [List.take_length]
        go_wp2_with fail
        go_ret
        exact ⟨rfl, HE2.out, hW⟩
  · have hl0 : l = [] := List.length_eq_zero_iff.1 (by omega)
    subst hl0
    go_enter Try.func18, Try.ntmps18
    go_wp2_with fail
    refine wp_loop_rounds 1 ?_
    rw [rounds_succ]
    go_wp2_with fail
    go_ret
    exact ⟨rfl, ho, within_refl _ _ _⟩
end Go.Proofs.Ytbkllceceaedpaa
