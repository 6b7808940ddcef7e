/- The reader of a code, of which draws are made; a text of several is drawn. For seats without marks. -/
import Derived.Test.YtnpkegmkmhambaaChecked
import Derived.Test.YtnpkegmkmhambaaStrs
import Derived.Laws.BitsAllLaws
import Derived.ChangeSlices
namespace Go.Proofs.Ytnpkegmkmhambaa
open Go.RowKit

/-- byte number k -/
def bt (zs : List Int) (k : Nat) : Int := zs.getD k 0
/-- the value leads to the bytes zs -/
def IsBytes (w : World) (v : Value) (zs : List Int) : Prop :=
  ∃ ao cap, v = .slice ao zs.length cap ∧ zs.length ≤ cap ∧ cap ≤ maxLen ∧ (∀ z ∈ zs, 0 ≤ z ∧ z ≤ 255) ∧ (0 < zs.length → ∃ b off, ao = some ⟨b, off, none⟩ ∧ b < w.heap.size ∧ ∀ k, k < zs.length → w.cell? ⟨b, off + k, none⟩ = some (.int .u8 (bt zs k)))

/-- block r holds a reader at place p of the bytes zs -/
def RdAt (w : World) (r : Nat) (v : Value) (zs : List Int) (p : Nat) : Prop :=
  w.heap[r]? = some (.cells #[v, .int .i64 (p : Int)] 54 (0, 0)) ∧
  ∃ ao cap, v = .slice ao zs.length cap ∧ zs.length ≤ 2000 ∧ (∀ z ∈ zs, 0 ≤ z ∧ z ≤ 255) ∧ (0 < zs.length → ∃ b off, ao = some ⟨b, off, none⟩ ∧ b < r ∧ ∀ k, k < zs.length → w.cell? ⟨b, off + k, none⟩ = some (.int .u8 (bt zs k)))
theorem rd_lt {w : World} {r p : Nat} {v : Value} {zs : List Int} (h : RdAt w r v zs p) : r < w.heap.size := (Array.getElem?_eq_some_iff.1 h.1).1
theorem rd_v {w : World} {r p : Nat} {v : Value} {zs : List Int} (h : RdAt w r v zs p) : w.cell? ⟨r, 0, none⟩ = some v := by rw [cell_of_row w r 0 _ _ _ h.1]; rfl
theorem rd_p {w : World} {r p : Nat} {v : Value} {zs : List Int} (h : RdAt w r v zs p) : w.cell? ⟨r, 1, none⟩ = some (.int .i64 (p : Int)) := by rw [cell_of_row w r 1 _ _ _ h.1]; rfl
theorem rd_frozen {w : World} {r p : Nat} {v : Value} {zs : List Int} (h : RdAt w r v zs p) : w.frozen? ⟨r, 1, none⟩ = false := frozen_of_row w r 1 _ _ h.1
theorem rd_set {w : World} {r p : Nat} {v : Value} {zs : List Int} (h : RdAt w r v zs p) : RdAt (w.setCell ⟨r, 1, none⟩ (.int .i64 ((p : Int) + 1))) r v zs (p + 1) := by
  obtain ⟨h1, ao, cap, hv, h2, h3, h4⟩ := h
  refine ⟨?_, ao, cap, hv, h2, h3, fun h0 => ?_⟩
  · rw [heap_setCell_same w r 1 _ _ _ h1]; congr 2
  · obtain ⟨b, off, hao, hb, hc⟩ := h4 h0
    refine ⟨b, off, hao, hb, fun k hk => ?_⟩
    rw [← hc k hk]
    exact World.cell?_of_block (heap_setCell_other w ⟨r, 1, none⟩ b _ (by simp; omega))
/-- a reader is still there where nothing but rows behind it was written -/
theorem rd_kept {w w' : World} {r p : Nat} {v : Value} {zs : List Int} (h : RdAt w r v zs p) {B : Nat} (hb : Below B w w') (hB : r < B) : RdAt w' r v zs p := by
  obtain ⟨h1, ao, cap, hv, h2, h3, h4⟩ := h
  refine ⟨(hb.block r hB).trans h1, ao, cap, hv, h2, h3, fun h0 => ?_⟩
  obtain ⟨b, off, hao, hbr, hc⟩ := h4 h0
  exact ⟨b, off, hao, hbr, fun k hk => (hb.cell (p := ⟨b, off + k, none⟩) (show b < B by omega)).trans (hc k hk)⟩
theorem byte_bd {zs : List Int} (h : ∀ z ∈ zs, 0 ≤ z ∧ z ≤ 255) (k : Nat) : 0 ≤ bt zs k ∧ bt zs k ≤ 255 := by
  unfold bt
  rw [List.getD_eq_getElem?_getD]
  cases hk : zs[k]? with
  | none => simp
  | some z => simpa using h z (List.mem_of_getElem? hk)

theorem mod_bd {a n : Int} (_h : 0 ≤ a) (hn : 1 ≤ n) : 0 ≤ a % n ∧ a % n < n := ⟨Int.emod_nonneg _ (by omega), Int.emod_lt_of_pos _ (by omega)⟩

theorem tmod_bd {a n : Int} (h : 0 ≤ a) (hn : 1 ≤ n) : 0 ≤ a.tmod n ∧ a.tmod n < n := ⟨Int.tmod_nonneg _ h, Int.tmod_lt_of_pos _ (by omega)⟩
theorem xor_nonneg {a b : Int} (ha : 0 ≤ a) (ha2 : a < 4294967296) (hb : 0 ≤ b) (hb2 : b < 4294967296) : 0 ≤ bits .xor .i64 a b := by
  obtain ⟨x, rfl⟩ := Int.eq_ofNat_of_zero_le ha
  obtain ⟨y, rfl⟩ := Int.eq_ofNat_of_zero_le hb
  have h1 : x ^^^ y < 2 ^ 32 := Nat.xor_lt_two_pow (by omega) (by omega)
  have hx : (BitVec.ofInt 64 (x : Int)).toNat = x := by rw [BitVec.ofInt_natCast, BitVec.toNat_ofNat]; omega
  have hy : (BitVec.ofInt 64 (y : Int)).toNat = y := by rw [BitVec.ofInt_natCast, BitVec.toNat_ofNat]; omega
  have h2 : ((BitVec.ofInt 64 (x : Int)) ^^^ (BitVec.ofInt 64 (y : Int))).toNat = x ^^^ y := by rw [BitVec.toNat_xor, hx, hy]
  show 0 ≤ IntKind.i64.wrap ((((BitVec.ofInt 64 (x : Int)) ^^^ (BitVec.ofInt 64 (y : Int))).toNat : Nat) : Int)
  rw [h2]
  unfold IntKind.wrap; simp [IntKind.signed, IntKind.bits]; omega

set_option maxHeartbeats 4000000 in
theorem pick_any (r p : Nat) (v : Value) (zs : List Int) (n : Int) (w : World) (h : RdAt w r v zs p) (hp : p ≤ 100000) (hn : 1 ≤ n) (hn2 : n ≤ 100000) :
    Calls Try.prog 36 #[.pointer (some ⟨r, 0, none⟩), .int .i64 n] w fun e w' => ∃ x : Int, e = .returned (.int .i64 x) ∧ 0 ≤ x ∧ x < n ∧ RdAt w' r v zs (p + 1) ∧ w.grownBy w' (some r) := by
  have hcv := rd_v h
  have hcp := rd_p h
  have hfz := rd_frozen h
  have h1 := rd_set h
  have hcv1 := rd_v h1
  have hcp1 := rd_p h1
  have ec : (((p + 1 : Nat)) : Int) = (p : Int) + 1 := by omega
  rw [ec] at hcp1
  clear ec
  have hg1 : w.grownBy (w.setCell ⟨r, 1, none⟩ (.int .i64 ((p : Int) + 1))) (some r) := ⟨rfl, rfl, rfl, by simp, fun k _ hk => heap_setCell_other w ⟨r, 1, none⟩ k _ (fun e => hk (by simp [e]))⟩
  obtain ⟨ao, cap, rfl, hz2, hzb, hz⟩ := h1.2
  by_cases h0 : zs.length = 0
  · have h0' : ((zs.length : Int) == 0) = true := by rw [h0]; rfl
    have H0 : Hid (zs.length = 0) := h0
    clear h0 hz
    go_enter Try.func36, Try.ntmps36
    go_wp2_with fail
    go_ret
    exact ⟨0, rfl, by omega, by omega, h1, hg1⟩
  · obtain ⟨b, off, rfl, hb, hc⟩ := hz (by omega)
    have h0' : ((zs.length : Int) == 0) = false := beq_eq_false_iff_ne.2 (by omega)
    by_cases hk : p < zs.length
    · have hcell := hc p hk
      obtain ⟨hbd1, hbd2⟩ := byte_bd hzb p
      have hkl : (p : Int) < (zs.length : Int) := by omega
      clear hc hz
      go_enter Try.func36, Try.ntmps36
      go_wp2_with fail
      go_ret
      exact ⟨_, rfl, (mod_bd hbd1 hn).1, (mod_bd hbd1 hn).2, h1, hg1⟩
    · have hkl : ¬ (p : Int) < (zs.length : Int) := by omega
      obtain ⟨q1, hq1⟩ : ∃ q : Nat, (p : Int) % (zs.length : Int) = (q : Int) := ⟨p % zs.length, by omega⟩
      obtain ⟨q2, hq2⟩ : ∃ q : Nat, ((p : Int) * 7 + 3) % (zs.length : Int) = (q : Int) := ⟨(p * 7 + 3) % zs.length, by rw [Int.natCast_emod]; congr 1⟩
      have hl0 : (0 : Int) < (zs.length : Int) := by omega
      have hq1l : (q1 : Int) < (zs.length : Int) := by rw [← hq1]; exact Int.emod_lt_of_pos _ hl0
      have hq2l : (q2 : Int) < (zs.length : Int) := by rw [← hq2]; exact Int.emod_lt_of_pos _ hl0
      have hcell1 := hc q1 (by omega)
      have hcell2 := hc q2 (by omega)
      obtain ⟨hbd1, hbd2⟩ := byte_bd hzb q1
      obtain ⟨hbd3, hbd4⟩ := byte_bd hzb q2
      have hdv1 : 0 ≤ (p : Int) / (zs.length : Int) := Int.ediv_nonneg (by omega) (by omega)
      have hdv2 : (p : Int) / (zs.length : Int) ≤ 100000 := Int.le_trans (Int.ediv_le_self _ (by omega)) (by omega)
      clear hc hz
      go_enter Try.func36, Try.ntmps36
      go_wp2_with fail
      go_quiet (fail)
      go_wp2_with fail
      go_ret
      exact ⟨_, rfl, (tmod_bd (xor_nonneg (by omega) (by omega) (by omega) (by omega)) hn).1, (tmod_bd (xor_nonneg (by omega) (by omega) (by omega) (by omega)) hn).2, h1, ⟨hg1.os, hg1.tape, hg1.output, hg1.size, hg1.block⟩⟩
theorem owns_form {w : World} {base : Nat} {v : Value} {l : List ByteArray} (h : Owns w base v l) :
    (l = [] ∧ ∃ ao cap, v = .slice ao 0 cap) ∨ (0 < l.length ∧ ∃ g cap, v = .slice (some ⟨g, 0, none⟩) l.length cap) := by
  rcases h.2 with ⟨rfl, hn⟩ | ⟨g, cap, cur, rfl, _, _, _, _, _, _⟩
  · exact .inl ⟨List.length_eq_zero_iff.1 hn, _, _, rfl⟩
  · by_cases h0 : l.length = 0
    · refine .inl ⟨List.length_eq_zero_iff.1 h0, ?_⟩; rw [h0]; exact ⟨_, _, rfl⟩
    · exact .inr ⟨by omega, g, cap, rfl⟩
theorem grown_trans2 {a b c : World} {r : Option Nat} (h : a.grownBy b r) (k : b.grownBy c r) : a.grownBy c r :=
  ⟨k.os.trans h.os, k.tape.trans h.tape, k.output.trans h.output, Nat.le_trans h.size k.size, fun i hi hr => (k.block i (Nat.lt_of_lt_of_le hi h.size) hr).trans (h.block i hi hr)⟩
theorem grown_of_below2 {a b : World} {r : Option Nat} (h : Below a.heap.size a b) : a.grownBy b r := ⟨h.os, h.tape, h.output, h.size, fun i hi _ => h.block i hi⟩
theorem rd_grown {w w' : World} {r p : Nat} {v : Value} {zs : List Int} (h : RdAt w r v zs p) (hb : Below w.heap.size w w') : RdAt w' r v zs p := rd_kept h hb (rd_lt h)
set_option maxHeartbeats 2000000 in
theorem of_any (r p : Nat) (v : Value) (zs : List Int) (u : Value) (l : List ByteArray) (base : Nat) (w : World) (h : RdAt w r v zs p) (hp : p ≤ 100000) (ho : Owns w base u l) (hr : r < base) (h0 : 0 < l.length) (hl : l.length ≤ 1000) :
    Calls Try.prog 30 #[.pointer (some ⟨r, 0, none⟩), u] w fun e w' => ∃ s, e = .returned (.string s) ∧ s ∈ l ∧ RdAt w' r v zs (p + 1) ∧ w.grownBy w' (some r) := by
  obtain ⟨g, cap, rfl⟩ : ∃ g cap, u = .slice (some ⟨g, 0, none⟩) l.length cap := by
    rcases owns_form ho with ⟨rfl, _⟩ | ⟨_, g, c, rfl⟩
    · simp at h0
    · exact ⟨g, c, rfl⟩
  have hg := (ho.lt g rfl).1
  go_enter Try.func30, Try.ntmps30
  go_wp2_with fail
  refine (pick_any r p v zs _ _ h hp (by omega) (by omega)).mono ?_
  rintro e w1 ⟨x, rfl, hx0, hx1, hR1, hg1⟩
  obtain ⟨k, rfl⟩ := Int.eq_ofNat_of_zero_le hx0
  have hk : k < l.length := by omega
  have ho1 : Owns w1 base (.slice (some ⟨g, 0, none⟩) l.length cap) l := World.ownsRow.kept ho hg1 (.inr (by simp [Value.ownBlock]; omega))
  have hcell : w1.cell? ⟨g, k, none⟩ = some (.string (at_ l k)) := by
    rw [World.ownsRow.cellAt ho1 k (by omega), List.getElem?_map, List.getElem?_eq_getElem hk, at_lt hk]; rfl
  go_wp2_with fail
  go_ret
  exact ⟨_, rfl, by rw [at_lt hk]; exact List.getElem_mem hk, hR1, hg1⟩
theorem own_ne_right {w : World} {base r : Nat} {v : Value} {l : List ByteArray} (h : Owns w base v l) (hr : r < base) : v.ownBlock = none ∨ v.ownBlock ≠ some r := by
  cases hv : v.ownBlock with
  | none => exact .inl rfl
  | some k => right; intro e; simp only [Option.some.injEq] at e; have := (h.lt k hv).1; omega
theorem grown_base {w a b : World} {r : Option Nat} (h : w.grownBy a r) (hb : Below w.heap.size a b) : w.grownBy b r :=
  ⟨hb.os.trans h.os, hb.tape.trans h.tape, hb.output.trans h.output, Nat.le_trans h.size hb.size, fun k hk hr => (hb.block k hk).trans (h.block k hk hr)⟩
theorem bytes_of_none {W : World} {a : Option Addr} {n c : Nat} (h : a = none ∧ n = 0 ∧ c = 0) : ∃ zs, IsBytes W (.slice a n c) zs := by
  obtain ⟨rfl, rfl, rfl⟩ := h
  exact ⟨[], none, 0, rfl, by simp, by simp, by simp, by simp⟩
theorem bytes_of_some {W : World} {a : Option Addr} {n c ln cp : Nat} {x : Addr} {zs : List Int} (h : a = some x ∧ n = ln ∧ c = cp) (hl : ln ≤ cp) (hm : cp ≤ maxLen) (hz : zs.length = cp)
    (hcell : ∀ i, i < zs.length → W.cell? (x.add i) = some (.int .u8 (zs.getD i 0))) (hwz : ∀ z ∈ zs, (Lit.int .u8 z).wf = true) : ∃ zs, IsBytes W (.slice a n c) zs := by
  obtain ⟨rfl, rfl, rfl⟩ := h
  have e : (zs.take n).length = n := by simp; omega
  refine ⟨zs.take n, some x, c, by rw [e], by omega, hm, fun z hz' => ?_, fun h0 => ?_⟩
  · have := hwz z (List.mem_of_mem_take hz')
    simpa [Lit.wf, IntKind.min, IntKind.max, IntKind.signed, IntKind.bits] using this
  · obtain ⟨b, off, spot⟩ := x
    have hc := hcell 0 (by omega)
    have hspot : spot = none := by simpa [Addr.add] using World.cell?_spot hc
    subst hspot
    refine ⟨b, off, rfl, World.block_lt_of_cell? W _ hc, fun k hk => ?_⟩
    have h1 := hcell k (by omega)
    have h2 : bt (zs.take n) k = zs.getD k 0 := by
      unfold bt; rw [List.getD_eq_getElem?_getD, List.getD_eq_getElem?_getD, List.getElem?_take, if_pos (by omega)]
    rw [h2, ← h1]
    congr 1
    unfold Addr.add; split <;> simp_all
theorem rd_new (w : World) (ao : Option Addr) (zs : List Int) (cap : Nat) (hlen : zs.length ≤ 2000) (hzb : ∀ z ∈ zs, 0 ≤ z ∧ z ≤ 255)
    (hz : 0 < zs.length → ∃ b off, ao = some ⟨b, off, none⟩ ∧ b < w.heap.size ∧ ∀ k, k < zs.length → w.cell? ⟨b, off + k, none⟩ = some (.int .u8 (bt zs k))) :
    RdAt (w.alloc (.cells #[.slice ao zs.length cap, .int .i64 0] 54)) w.heap.size (.slice ao zs.length cap) zs 0 := by
  refine ⟨heap_alloc_new w _, ao, cap, rfl, hlen, hzb, fun h0 => ?_⟩
  obtain ⟨b, off, hao, hb, hc⟩ := hz h0
  refine ⟨b, off, hao, hb, fun k hk => ?_⟩
  rw [← hc k hk]
  exact ((Below.refl w.heap.size w).alloc (Nat.le_refl _) _).cell (p := ⟨b, off + k, none⟩) hb
set_option maxHeartbeats 2000000 in
theorem open_any (v : Value) (zs : List Int) (w : World) (h : IsBytes w v zs) :
    Calls Try.prog 18 #[v] w fun e w' => e = .returned (.pointer (some ⟨w.heap.size, 0, none⟩)) ∧ (∃ v' zs', RdAt w' w.heap.size v' zs' 0) ∧ w.heap.size < w'.heap.size ∧ Below w.heap.size w w' := by
  obtain ⟨ao, cap, rfl, hlc, hcm, hzb, hz⟩ := h
  unfold maxLen at hcm
  have hB : ∀ o, Below w.heap.size w (w.alloc o) := fun o => (Below.refl _ w).alloc (Nat.le_refl _) o
  by_cases hlen : zs.length ≤ 2000
  · have hlen' : ¬ (2000 : Int) < (zs.length : Int) := by omega
    go_enter Try.func18, Try.ntmps18
    go_wp2_with fail
    go_ret
    refine ⟨rfl, ⟨_, zs, rd_new w ao zs cap hlen hzb hz⟩, by simp, hB _⟩
  · have hlen' : (2000 : Int) < (zs.length : Int) := by omega
    have hcap' : (2000 : Int) ≤ (cap : Int) := by omega
    obtain ⟨b, off, rfl, hb, hc⟩ := hz (by omega)
    have e : (zs.take 2000).length = 2000 := by simp; omega
    have hrd := rd_new w (some ⟨b, off, none⟩) (zs.take 2000) cap (by omega) (fun z hz' => hzb z (List.mem_of_mem_take hz')) (fun _ => ⟨b, off, rfl, hb, fun k hk => by
      rw [hc k (by omega)]; unfold bt; rw [List.getD_eq_getElem?_getD, List.getD_eq_getElem?_getD, List.getElem?_take, if_pos (by omega)]⟩)
    rw [e] at hrd
    clear hz hc
    go_enter Try.func18, Try.ntmps18
    go_wp2_with fail
    go_ret
    refine ⟨rfl, ⟨_, zs.take 2000, hrd⟩, by simp, hB _⟩
/-- what grew but for a block that is new is below -/
theorem below_rd {w a b : World} (h : Below w.heap.size w a) (hg : a.grownBy b (some w.heap.size)) : Below w.heap.size w b :=
  h.grown hg h.size (fun k hk => by simp at hk; omega)
end Go.Proofs.Ytnpkegmkmhambaa
