/- An entry's lists marked, and asked for again; nothing outside their stretch is written. -/
import Derived.Test.YtnefnbojomlaeaaEnH
import Derived.Test.YtnefnbojomlaeaaScM
import Derived.Test.YtnefnbojomlaeaaPrM
namespace Go.Proofs.Ytnefnbojomlaeaa
open Go.RowKit
set_option linter.unusedVariables false

/-- what was there is as it was, but for the blocks from lo to hi -/
structure Within (w w' : World) (lo hi : Nat) : Prop where
  os : w'.os = w.os
  tape : w'.tape = w.tape
  output : w'.output = w.output
  size : w.heap.size ≤ w'.heap.size
  block : ∀ k, k < w.heap.size → (k < lo ∨ hi ≤ k) → w'.heap[k]? = w.heap[k]?
theorem within_refl (w : World) (lo hi : Nat) : Within w w lo hi := ⟨rfl, rfl, rfl, Nat.le_refl _, fun _ _ _ => rfl⟩
theorem within_trans {a b c : World} {lo hi : Nat} (h : Within a b lo hi) (g : Within b c lo hi) : Within a c lo hi :=
  ⟨g.os.trans h.os, g.tape.trans h.tape, g.output.trans h.output, Nat.le_trans h.size g.size, fun k hk hr => (g.block k (Nat.lt_of_lt_of_le hk h.size) hr).trans (h.block k hk hr)⟩
theorem within_below {w w' : World} (h : Below w.heap.size w w') (lo hi : Nat) : Within w w' lo hi := ⟨h.os, h.tape, h.output, h.size, fun k hk _ => h.block k hk⟩
theorem within_mono {w w' : World} {lo hi lo' hi' : Nat} (h : Within w w' lo hi) (h1 : lo' ≤ lo) (h2 : hi ≤ hi') : Within w w' lo' hi' :=
  ⟨h.os, h.tape, h.output, h.size, fun k hk hr => h.block k hk (by omega)⟩
theorem within_grown {w w' : World} {lo hi : Nat} {r : Option Nat} (h : w.grownBy w' r) (hr : ∀ k, r = some k → lo ≤ k ∧ k < hi) : Within w w' lo hi :=
  ⟨h.os, h.tape, h.output, h.size, fun k hk hkk => h.block k hk (fun e => by have := hr k e.symm; omega)⟩
theorem own_in {w : World} {lo hi : Nat} {v : Value} {l : List ByteArray} (h : Own w lo hi v l) : ∀ k, v.ownBlock = some k → lo ≤ k ∧ k < hi := fun k hk => ⟨(h.1.lt k hk).1, h.2 k hk⟩
theorem ownR_in {α : Type} {c : α → List Value} {sz : Nat} {t : TypeId} {w : World} {lo hi : Nat} {v : Value} {l : List α} (h : OwnR c sz t w lo hi v l) : ∀ k, v.ownBlock = some k → lo ≤ k ∧ k < hi := fun k hk => ⟨(h.1.lt k hk).1, h.2 k hk⟩
theorem ownsRow_block {w w' : World} {base : Nat} {e : TypeId} {size : Nat} {v : Value} {n : Nat} {xs : List Value} (h : w.ownsRow base e size v n xs) (hb : ∀ g, v.ownBlock = some g → w'.heap[g]? = w.heap[g]?) : w'.ownsRow base e size v n xs := by
  refine ⟨h.1, ?_⟩
  rcases h.2 with hn | ⟨g, cap, cur, rfl, hbg, hgg, rest⟩
  · exact .inl hn
  · exact .inr ⟨g, cap, cur, rfl, hbg, (hb g rfl).trans hgg, rest⟩
theorem own_within {w w' : World} {lo hi a b : Nat} {v : Value} {l : List ByteArray} (h : Own w lo hi v l) (hw : Within w w' a b) (hap : hi ≤ a ∨ b ≤ lo) : Own w' lo hi v l :=
  ⟨ownsRow_block h.1 fun g hg => hw.block g (h.1.lt g hg).2 (by have := own_in h g hg; omega), h.2⟩
theorem ownR_within {α : Type} {c : α → List Value} {sz : Nat} {t : TypeId} {w w' : World} {lo hi a b : Nat} {v : Value} {l : List α} (h : OwnR c sz t w lo hi v l) (hw : Within w w' a b) (hap : hi ≤ a ∨ b ≤ lo) : OwnR c sz t w' lo hi v l :=
  ⟨ownsRow_block h.1 fun g hg => hw.block g (h.1.lt g hg).2 (by have := ownR_in h g hg; omega), h.2⟩
theorem enOwn_within {w w' : World} {lo hi a b : Nat} {vl vs vf : Value} {e : Ent} (h : EnOwn w lo hi vl vs vf e) (hw : Within w w' a b) (hap : hi ≤ a ∨ b ≤ lo) : EnOwn w' lo hi vl vs vf e := by
  obtain ⟨x, y, h1, h2, h3, h4, h5, h6⟩ := h
  exact ⟨x, y, h1, h2, h3, own_within h4 hw (by omega), ownR_within h5 hw (by omega), ownR_within h6 hw (by omega)⟩

/-- the entry, its lists marked from 1 on -/
def mkd (e : Ent) : Ent := { e with list := marks 1 e.list.length, scores := scMarks (1 + e.list.length) e.scores.length, fields := prMarks (1 + e.list.length + 2 * e.scores.length) e.fields.length }
def entM (e : Ent) : Int := 1 + (e.list.length : Int) + 2 * (e.scores.length : Int) + 2 * (e.fields.length : Int)

set_option maxHeartbeats 4000000 in
theorem markEntry_any (e : Ent) (vl vs vf : Value) (lo hi : Nat) (w : World) (ho : EnOwn w lo hi vl vs vf e) (hs : EnSmall e) (hhi : hi ≤ w.heap.size) :
    Calls Try.prog 11 #[enV e vl vs vf, .int .i64 1] w fun x w' => x = .returned (.int .i64 (entM e)) ∧ EnOwn w' lo hi vl vs vf (mkd e) ∧ Within w w' lo hi := by
  obtain ⟨al, cl, as_, cs, af, cf, rfl, rfl, rfl⟩ := enReads_shape (enOwn_reads ho)
  obtain ⟨A, B, hA1, hA2, hA3, hl, hc, hf⟩ := ho
  go_enter Try.func11, Try.ntmps11
  go_wp2_with fail
  have hb0 : Below w.heap.size w (w.alloc (.cells #[.string e.key, .int .i64 e.til, .int .i64 e.kind, .string e.text, .slice al e.list.length cl, .slice as_ e.scores.length cs, .slice af e.fields.length cf] 30)) := (Below.refl _ w).alloc (Nat.le_refl _) _
  have Q0 : Hid ((w.alloc (.cells #[.string e.key, .int .i64 e.til, .int .i64 e.kind, .string e.text, .slice al e.list.length cl, .slice as_ e.scores.length cs, .slice af e.fields.length cf] 30)).heap[w.heap.size]? = some (.cells #[.string e.key, .int .i64 e.til, .int .i64 e.kind, .string e.text, .slice al e.list.length cl, .slice as_ e.scores.length cs, .slice af e.fields.length cf] 30 (0, 0))) := heap_alloc_new _ _
  have hz0 : w.heap.size < (w.alloc (.cells #[.string e.key, .int .i64 e.til, .int .i64 e.kind, .string e.text, .slice al e.list.length cl, .slice as_ e.scores.length cs, .slice af e.fields.length cf] 30)).heap.size := by simp
  obtain ⟨w0, hW⟩ : ∃ W, w.alloc (.cells #[.string e.key, .int .i64 e.til, .int .i64 e.kind, .string e.text, .slice al e.list.length cl, .slice as_ e.scores.length cs, .slice af e.fields.length cf] 30) = W := ⟨_, rfl⟩
  rw [hW] at hb0 Q0 hz0 ⊢
  clear hW
  have W0 := within_below hb0 lo hi
  have hl0 := own_kept hl hb0
  have hc0 := ownR_kept hc hb0
  have hf0 := ownR_kept hf hb0
  clear hl hc hf hb0
  refine (mark_own _ e.list lo A _ hl0 hs.list).mono ?_
  rintro x w1 ⟨rfl, hl1, hg1⟩
  have V1 := within_grown hg1 (own_in hl0)
  have W1 := within_trans W0 (within_mono V1 (Nat.le_refl _) (by omega))
  have hc1 := ownR_within hc0 V1 (.inr (Nat.le_refl _))
  have hf1 := ownR_within hf0 V1 (.inr (by omega))
  have Q1 : Hid _ := (V1.block w.heap.size hz0 (by omega)).trans Q0.out
  have hz1 := Nat.lt_of_lt_of_le hz0 V1.size
  clear hl0 hc0 hf0 hg1 V1 Q0 hz0 W0
  have hx := box7_row Q1.out
  have hx5 := hx.c5
  clear hx
  go_wp2_with fail
  refine (markScore_own _ e.scores A B _ _ hc1 (by omega) (by have := hs.list; omega) hs.scores).mono ?_
  rintro x w2 ⟨rfl, hc2, hg2⟩
  have V2 := within_grown hg2 (ownR_in hc1)
  have W2 := within_trans W1 (within_mono V2 hA1 (by omega))
  have hl2 := own_within hl1 V2 (.inl (Nat.le_refl _))
  have hf2 := ownR_within hf1 V2 (.inr (Nat.le_refl _))
  have Q2 : Hid _ := (V2.block w.heap.size hz1 (by omega)).trans Q1.out
  have hz2 := Nat.lt_of_lt_of_le hz1 V2.size
  clear hl1 hc1 hf1 hg2 V2 Q1 hz1 W1 hx5
  have hx := box7_row Q2.out
  have hx6 := hx.c6
  clear hx
  go_wp2_with fail
  refine (markPair_own _ e.fields B hi _ _ hf2 (by omega) (by have := hs.list; have := hs.scores; omega) hs.fields).mono ?_
  rintro x w3 ⟨rfl, hf3, hg3⟩
  have V3 := within_grown hg3 (ownR_in hf2)
  have W3 := within_trans W2 (within_mono V3 (by omega) (Nat.le_refl _))
  have hl3 := own_within hl2 V3 (.inl (by omega))
  have hc3 := ownR_within hc2 V3 (.inl (Nat.le_refl _))
  clear hl2 hc2 hf2 hg3 V3 Q2 hz2 W2 hx6
  go_wp2_with fail
  go_ret
  refine ⟨rfl, ⟨A, B, hA1, hA2, hA3, hl3, ?_, ?_⟩, W3⟩
  · have e1 : (1 + (e.list.length : Int)).toNat = 1 + e.list.length := by omega
    rw [e1] at hc3; exact hc3
  · have e2 : (1 + (e.list.length : Int) + 2 * (e.scores.length : Int)).toNat = 1 + e.list.length + 2 * e.scores.length := by omega
    rw [e2] at hf3; exact hf3
theorem mkd_len (e : Ent) : (mkd e).list.length = e.list.length ∧ (mkd e).scores.length = e.scores.length ∧ (mkd e).fields.length = e.fields.length := ⟨marks_len _ _, scMarks_len _ _, prMarks_len _ _⟩
set_option maxHeartbeats 4000000 in
theorem heldEntry_any (e : Ent) (vl vs vf : Value) (w : World) (hr : EnReads w vl vs vf (mkd e)) (hs : EnSmall e) :
    Calls Try.prog 12 #[enV e vl vs vf, .int .i64 1] w fun x w' => x = .returned (.int .i64 (entM e)) ∧ Below w.heap.size w w' := by
  obtain ⟨al, cl, as_, cs, af, cf, h1, h2, h3⟩ := enReads_shape hr
  rw [(mkd_len e).1] at h1
  rw [(mkd_len e).2.1] at h2
  rw [(mkd_len e).2.2] at h3
  subst h1 h2 h3
  have hL : Reads w (.slice al e.list.length cl) (marks 1 e.list.length) := hr.l
  have hS : ScReads w (.slice as_ e.scores.length cs) (scMarks (1 + e.list.length) e.scores.length) := hr.s
  have hF : PrReads w (.slice af e.fields.length cf) (prMarks (1 + e.list.length + 2 * e.scores.length) e.fields.length) := hr.f
  have n1 := hs.list
  have n2 := hs.scores
  have n3 := hs.fields
  clear hr
  go_enter Try.func12, Try.ntmps12
  go_wp2_with fail
  have hb0 : Below w.heap.size w (w.alloc (.cells #[.string e.key, .int .i64 e.til, .int .i64 e.kind, .string e.text, .slice al e.list.length cl, .slice as_ e.scores.length cs, .slice af e.fields.length cf] 30)) := (Below.refl _ w).alloc (Nat.le_refl _) _
  have Q0 : Hid ((w.alloc (.cells #[.string e.key, .int .i64 e.til, .int .i64 e.kind, .string e.text, .slice al e.list.length cl, .slice as_ e.scores.length cs, .slice af e.fields.length cf] 30)).heap[w.heap.size]? = some (.cells #[.string e.key, .int .i64 e.til, .int .i64 e.kind, .string e.text, .slice al e.list.length cl, .slice as_ e.scores.length cs, .slice af e.fields.length cf] 30 (0, 0))) := heap_alloc_new _ _
  have hz0 : w.heap.size < (w.alloc (.cells #[.string e.key, .int .i64 e.til, .int .i64 e.kind, .string e.text, .slice al e.list.length cl, .slice as_ e.scores.length cs, .slice af e.fields.length cf] 30)).heap.size := by simp
  obtain ⟨w0, hW⟩ : ∃ W, w.alloc (.cells #[.string e.key, .int .i64 e.til, .int .i64 e.kind, .string e.text, .slice al e.list.length cl, .slice as_ e.scores.length cs, .slice af e.fields.length cf] 30) = W := ⟨_, rfl⟩
  rw [hW] at hb0 Q0 hz0 ⊢
  clear hW
  refine (heldS_any _ e.list.length 1 _ (reads_kept hL hb0) (by omega) (by omega) n1).mono ?_
  rintro x w1 ⟨rfl, hb1⟩
  have hB1 := hb0.trans (hb1.mono hb0.size)
  have Q1 : Hid _ := (hb1.block w.heap.size hz0).trans Q0.out
  have hz1 := Nat.lt_of_lt_of_le hz0 hb1.size
  clear hb0 hb1 Q0 hz0 hL
  have hx := box7_row Q1.out
  have hx5 := hx.c5
  clear hx
  have hheld := heldScoreS_any _ e.scores.length (1 + e.list.length) _ (readsR_kept hS hB1) (by omega) (by omega) n2
  rw [show ((1 + e.list.length : Nat) : Int) = 1 + (e.list.length : Int) by omega] at hheld
  go_wp2_with fail
  refine hheld.mono ?_
  rintro x w2 ⟨rfl, hb2⟩
  have hB2 := hB1.trans (hb2.mono hB1.size)
  have Q2 : Hid _ := (hb2.block w.heap.size hz1).trans Q1.out
  clear hb2 hB1 Q1 hz1 hx5 hheld hS
  have hx := box7_row Q2.out
  have hx6 := hx.c6
  clear hx
  have hheld := heldPairS_any _ e.fields.length (1 + e.list.length + 2 * e.scores.length) _ (readsR_kept hF hB2) (by omega) (by omega) n3
  rw [show ((1 + e.list.length + 2 * e.scores.length : Nat) : Int) = 1 + (e.list.length : Int) + 2 * (e.scores.length : Int) by omega] at hheld
  go_wp2_with fail
  refine hheld.mono ?_
  rintro x w3 ⟨rfl, hb3⟩
  have hB3 := hB2.trans (hb3.mono hB2.size)
  clear hb3 hB2 hx6 hheld hF
  go_wp2_with fail
  go_ret
  exact ⟨rfl, hB3⟩
end Go.Proofs.Ytnefnbojomlaeaa
