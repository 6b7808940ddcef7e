/- Draws: the reader is opened; ends and places. -/
import Derived.Test.YtjgnfneondlhhaaDrawB
import Derived.ChangeSlices
namespace Go.Proofs.Ytjgnfneondlhhaa
open Go.RowKit

theorem bytes_of_none {W : World} {a : Option Addr} {n c : Nat} (h : a = none ∧ n = 0 ∧ c = 0) : ∃ zs, IsBytes W (.slice a n c) zs := by
  obtain ⟨rfl, rfl, rfl⟩ := h
  exact ⟨[], none, 0, rfl, by simp, by simp, by simp, by simp⟩
theorem bytes_of_some {W : World} {a : Option Addr} {n c ln cp : Nat} {x : Addr} {zs : List Int} (h : a = some x ∧ n = ln ∧ c = cp) (hl : ln ≤ cp) (hm : cp ≤ maxLen) (hz : zs.length = cp)
    (hcell : ∀ i, i < zs.length → W.cell? (x.add i) = some (.int .u8 (zs.getD i 0))) (hwz : ∀ z ∈ zs, (Lit.int .u8 z).wf = true) : ∃ zs, IsBytes W (.slice a n c) zs := by
  obtain ⟨rfl, rfl, rfl⟩ := h
  have e : (zs.take n).length = n := by simp; omega
  refine ⟨zs.take n, some x, c, by rw [e], by omega, hm, fun z hz' => ?_, fun h0 => ?_⟩
  · have := hwz z (List.mem_of_mem_take hz')
    simpa [Lit.wf, IntKind.min, IntKind.max, IntKind.signed, IntKind.bits] using this
  · obtain ⟨b, off, spot⟩ := x
    have hc := hcell 0 (by omega)
    have hspot : spot = none := by simpa [Addr.add] using World.cell?_spot hc
    subst hspot
    refine ⟨b, off, rfl, World.block_lt_of_cell? W _ hc, fun k hk => ?_⟩
    have h1 := hcell k (by omega)
    have h2 : bt (zs.take n) k = zs.getD k 0 := by
      unfold bt; rw [List.getD_eq_getElem?_getD, List.getD_eq_getElem?_getD, List.getElem?_take, if_pos (by omega)]
    rw [h2, ← h1]
    congr 1
    unfold Addr.add; split <;> simp_all

theorem rd_new (w : World) (ao : Option Addr) (zs : List Int) (cap : Nat) (hlen : zs.length ≤ 2000) (hzb : ∀ z ∈ zs, 0 ≤ z ∧ z ≤ 255)
    (hz : 0 < zs.length → ∃ b off, ao = some ⟨b, off, none⟩ ∧ b < w.heap.size ∧ ∀ k, k < zs.length → w.cell? ⟨b, off + k, none⟩ = some (.int .u8 (bt zs k))) :
    RdAt (w.alloc (.cells #[.slice ao zs.length cap, .int .i64 0] 78)) w.heap.size (.slice ao zs.length cap) zs 0 := by
  refine ⟨heap_alloc_new w _, ao, cap, rfl, hlen, hzb, fun h0 => ?_⟩
  obtain ⟨b, off, hao, hb, hc⟩ := hz h0
  refine ⟨b, off, hao, hb, fun k hk => ?_⟩
  rw [← hc k hk]
  exact ((Below.refl w.heap.size w).alloc (Nat.le_refl _) _).cell (p := ⟨b, off + k, none⟩) hb

set_option maxHeartbeats 2000000 in
theorem open_any (v : Value) (zs : List Int) (w : World) (h : IsBytes w v zs) :
    Calls Try.prog 57 #[v] w fun e w' => e = .returned (.pointer (some ⟨w.heap.size, 0, none⟩)) ∧ (∃ v' zs', RdAt w' w.heap.size v' zs' 0) ∧ w.heap.size < w'.heap.size ∧ Below w.heap.size w w' := by
  obtain ⟨ao, cap, rfl, hlc, hcm, hzb, hz⟩ := h
  unfold maxLen at hcm
  have hB : ∀ o, Below w.heap.size w (w.alloc o) := fun o => (Below.refl _ w).alloc (Nat.le_refl _) o
  by_cases hlen : zs.length ≤ 2000
  · have hlen' : ¬ (2000 : Int) < (zs.length : Int) := by omega
    go_enter Try.func57, Try.ntmps57
    go_wp2_with fail
    go_ret
    refine ⟨rfl, ⟨_, zs, rd_new w ao zs cap hlen hzb hz⟩, by simp, hB _⟩
  · have hlen' : (2000 : Int) < (zs.length : Int) := by omega
    have hcap' : (2000 : Int) ≤ (cap : Int) := by omega
    obtain ⟨b, off, rfl, hb, hc⟩ := hz (by omega)
    have e : (zs.take 2000).length = 2000 := by simp; omega
    have hrd := rd_new w (some ⟨b, off, none⟩) (zs.take 2000) cap (by omega) (fun z hz' => hzb z (List.mem_of_mem_take hz')) (fun _ => ⟨b, off, rfl, hb, fun k hk => by
      rw [hc k (by omega)]; unfold bt; rw [List.getD_eq_getElem?_getD, List.getD_eq_getElem?_getD, List.getElem?_take, if_pos (by omega)]⟩)
    rw [e] at hrd
    clear hz hc
    go_enter Try.func57, Try.ntmps57
    go_wp2_with fail
    go_ret
    refine ⟨rfl, ⟨_, zs.take 2000, hrd⟩, by simp, hB _⟩

theorem infoI : (Try.prog.info? 3).map (fun i => (i.zero, i.size, i.bytes)) = some (some (.int .i64 0), 1, 8) := by kernel_rfl

set_option maxHeartbeats 2000000 in
theorem one_any (r p : Nat) (v : Value) (zs : List Int) (l : List Int) (g cap base : Nat) (w : World) (h : RdAt w r v zs p) (hp : p ≤ 100000) (ho : w.ownsRow base 3 1 (.slice (some ⟨g, 0, none⟩) l.length cap) l.length (l.map (Value.int .i64))) (hr : r < base) (h0 : 0 < l.length) (hl : l.length ≤ 1000) :
    Calls Try.prog 64 #[.pointer (some ⟨r, 0, none⟩), .slice (some ⟨g, 0, none⟩) l.length cap] w fun e w' => ∃ s, e = .returned (.int .i64 s) ∧ s ∈ l ∧ RdAt w' r v zs (p + 1) ∧ w.grownBy w' (some r) := by
  have hg := (ho.lt g rfl).1
  go_enter Try.func64, Try.ntmps64
  go_wp2_with fail
  refine (pick_any r p v zs _ _ h hp (by omega) (by omega)).mono ?_
  rintro e w1 ⟨x, rfl, hx0, hx1, hR1, hg1⟩
  obtain ⟨k, rfl⟩ := Int.eq_ofNat_of_zero_le hx0
  have hk : k < l.length := by omega
  have ho1 := ho.kept hg1 (.inr (by simp [Value.ownBlock]; omega))
  have hcell : w1.cell? ⟨g, k, none⟩ = some (.int .i64 (l[k])) := by
    rw [World.ownsRow.cellAt ho1 k (by omega), List.getElem?_map, List.getElem?_eq_getElem hk]; rfl
  go_wp2_with fail
  go_ret
  exact ⟨_, rfl, List.getElem_mem hk, hR1, hg1⟩

def placesL : List Int := [0, 1, 2, -1, -2, 5, -9, 100, 1000000000, 1000000001]

set_option maxHeartbeats 2000000 in
theorem place_any (r p : Nat) (v : Value) (zs : List Int) (w : World) (h : RdAt w r v zs p) (hp : p ≤ 100000) :
    Calls Try.prog 60 #[.pointer (some ⟨r, 0, none⟩)] w fun e w' => ∃ s : Int, e = .returned (.int .i64 s) ∧ -9 ≤ s ∧ s ≤ 1000000001 ∧ RdAt w' r v zs (p + 1) ∧ w.grownBy w' (some r) := by
  have hrl := rd_lt h
  have hB := (Below.refl w.heap.size w).alloc (Nat.le_refl _) (.cells (placesL.map (Value.int .i64)).toArray 3)
  have ho : (w.alloc (.cells (placesL.map (Value.int .i64)).toArray 3)).ownsRow w.heap.size 3 1 (.slice (some ⟨w.heap.size, 0, none⟩) 10 10) 10 (placesL.map (Value.int .i64)) := World.ownsRow_lit w (placesL.map (Value.int .i64)).toArray 10 (Nat.le_refl _) (by decide) rfl
  go_enter Try.func60, Try.ntmps60
  go_wp2_with fail
  refine (one_any r p v zs placesL w.heap.size 10 w.heap.size (w.alloc (.cells (placesL.map (Value.int .i64)).toArray 3)) (rd_grown h hB) hp ho hrl (by decide) (by decide)).mono ?_
  rintro e w2 ⟨s, rfl, hmem, hR2, hg2⟩
  have hs : -9 ≤ s ∧ s ≤ 1000000001 := by
    simp only [placesL, List.mem_cons, List.not_mem_nil, or_false] at hmem
    omega
  have hg3 := grown_trans2 (World.grownBy_alloc w (.cells (placesL.map (Value.int .i64)).toArray 3) (some r)) hg2
  clear hg2 ho hB
  go_wp2_with fail
  go_ret
  exact ⟨s, rfl, hs.1, hs.2, hR2, hg3⟩

/-- what grew but for a block that is new is below -/
theorem below_rd {w a b : World} (h : Below w.heap.size w a) (hg : a.grownBy b (some w.heap.size)) : Below w.heap.size w b :=
  h.grown hg h.size (fun k hk => by simp at hk; omega)

set_option maxHeartbeats 4000000 in
theorem drawPop_any (v : Value) (zs : List Int) (w : World) (h : IsBytes w v zs) :
    Calls Try.prog 36 #[v] w fun e w' => ∃ u l f, e = .returned (.tuple #[u, .bool f]) ∧ Owns w' (w.heap.size + 1) u l ∧ l.length ≤ 20 ∧ (∀ s ∈ l, s.size ≤ 41) ∧ Below w.heap.size w w' := by
  go_enter Try.func36, Try.ntmps36
  go_wp2_with fail
  refine (open_any v zs _ h).mono ?_
  rintro e w1 ⟨rfl, ⟨v', zs', hR1⟩, hlt1, hB1⟩
  go_wp2_with fail
  refine (anyTexts_draw _ 0 v' zs' _ hR1 (by omega)).mono ?_
  rintro e w2 ⟨u, l, q, rfl, ho2, hl, hs, hR2, hq, hG2⟩
  have hB2 := below_rd hB1 hG2
  have HS : Hid (∀ s ∈ l, s.size ≤ 41) := hs
  clear hR1 hG2 hB1 hs
  go_wp2_with fail
  refine (pick_any _ q v' zs' _ _ hR2 (by omega) (by omega) (by omega)).mono ?_
  rintro e w3 ⟨x, rfl, hx0, hx1, hR3, hg3⟩
  have hB3 := below_rd hB2 hg3
  have ho3 : Owns w3 w1.heap.size u l := World.ownsRow.kept ho2 hg3 (own_ne_right ho2 hlt1)
  clear hR2 hg3 hB2 ho2
  go_wp2_with fail
  go_ret2
  exact ⟨_, l, _, rfl, owns_base ho3 hlt1, hl, HS.out, hB3⟩

set_option maxHeartbeats 4000000 in
theorem drawPush_any (v : Value) (zs : List Int) (w : World) (h : IsBytes w v zs) :
    Calls Try.prog 34 #[v] w fun e w' => ∃ u l f x ts mid, e = .returned (.tuple #[u, .bool f, x]) ∧ Owns w' (w.heap.size + 1) u l ∧ (∀ k, u.ownBlock = some k → k < mid) ∧ Owns w' mid x ts ∧ w.heap.size < mid ∧ l.length ≤ 20 ∧ ts.length ≤ 20 ∧ (∀ s ∈ l, s.size ≤ 41) ∧ (∀ s ∈ ts, s.size ≤ 41) ∧ Below w.heap.size w w' := by
  go_enter Try.func34, Try.ntmps34
  go_wp2_with fail
  refine (open_any v zs _ h).mono ?_
  rintro e w1 ⟨rfl, ⟨v', zs', hR1⟩, hlt1, hB1⟩
  go_wp2_with fail
  refine (anyTexts_draw _ 0 v' zs' _ hR1 (by omega)).mono ?_
  rintro e w2 ⟨u, l, q, rfl, ho2, hl, hs, hR2, hq, hG2⟩
  have hB2 := below_rd hB1 hG2
  have HS : Hid (∀ s ∈ l, s.size ≤ 41) := hs
  have hlt2 := hG2.size
  clear hR1 hG2 hB1 hs
  go_wp2_with fail
  refine (pick_any _ q v' zs' _ _ hR2 (by omega) (by omega) (by omega)).mono ?_
  rintro e w3 ⟨y, rfl, hx0, hx1, hR3, hg3⟩
  have hB3 := below_rd hB2 hg3
  have hlt3 := hg3.size
  have ho3 : Owns w3 w1.heap.size u l := World.ownsRow.kept ho2 hg3 (own_ne_right ho2 hlt1)
  clear hR2 hg3 hB2 ho2
  go_wp2_with fail
  refine (anyTexts_draw _ (q + 1) v' zs' _ hR3 (by omega)).mono ?_
  rintro e w4 ⟨x, ts, q2, rfl, ho4, hl4, hs4, hR4, hq4, hG4⟩
  have hB4 := below_rd hB3 hG4
  have HS4 : Hid (∀ s ∈ ts, s.size ≤ 41) := hs4
  have ho5 : Owns w4 w1.heap.size u l := World.ownsRow.kept ho3 hG4 (own_ne_right ho3 hlt1)
  have hmid : ∀ k, u.ownBlock = some k → k < w3.heap.size := fun k hk => (ho3.lt k hk).2
  have HMID : Hid (∀ k, u.ownBlock = some k → k < w3.heap.size) := hmid
  clear hR3 hG4 hB3 ho3 hs4 hmid
  go_wp2_with fail
  go_ret3
  exact ⟨_, l, _, _, ts, w3.heap.size, rfl, owns_base ho5 hlt1, HMID.out, ho4, by omega, hl, hl4, HS.out, HS4.out, hB4⟩

set_option maxHeartbeats 4000000 in
theorem drawRange_any (v : Value) (zs : List Int) (w : World) (h : IsBytes w v zs) :
    Calls Try.prog 37 #[v] w fun e w' => ∃ u l a b, e = .returned (.tuple #[u, .int .i64 a, .int .i64 b]) ∧ Owns w' (w.heap.size + 1) u l ∧ l.length ≤ 20 ∧ (∀ s ∈ l, s.size ≤ 41) ∧ -9 ≤ a ∧ a ≤ 1000000001 ∧ -9 ≤ b ∧ b ≤ 1000000001 ∧ Below w.heap.size w w' := by
  go_enter Try.func37, Try.ntmps37
  go_wp2_with fail
  refine (open_any v zs _ h).mono ?_
  rintro e w1 ⟨rfl, ⟨v', zs', hR1⟩, hlt1, hB1⟩
  go_wp2_with fail
  refine (anyTexts_draw _ 0 v' zs' _ hR1 (by omega)).mono ?_
  rintro e w2 ⟨u, l, q, rfl, ho2, hl, hs, hR2, hq, hG2⟩
  have hB2 := below_rd hB1 hG2
  have HS : Hid (∀ s ∈ l, s.size ≤ 41) := hs
  clear hR1 hG2 hB1 hs
  go_wp2_with fail
  refine (place_any _ q v' zs' _ hR2 (by omega)).mono ?_
  rintro e w3 ⟨a, rfl, ha0, ha1, hR3, hg3⟩
  have hB3 := below_rd hB2 hg3
  have ho3 : Owns w3 w1.heap.size u l := World.ownsRow.kept ho2 hg3 (own_ne_right ho2 hlt1)
  clear hR2 hg3 hB2 ho2
  go_wp2_with fail
  refine (place_any _ (q + 1) v' zs' _ hR3 (by omega)).mono ?_
  rintro e w4 ⟨b, rfl, hb0, hb1, hR4, hg4⟩
  have hB4 := below_rd hB3 hg4
  have ho4 : Owns w4 w1.heap.size u l := World.ownsRow.kept ho3 hg4 (own_ne_right ho3 hlt1)
  clear hR3 hg4 hB3 ho3
  go_wp2_with fail
  go_ret3
  exact ⟨_, l, a, b, rfl, owns_base ho4 hlt1, hl, HS.out, ha0, ha1, hb0, hb1, hB4⟩
end Go.Proofs.Ytjgnfneondlhhaa
