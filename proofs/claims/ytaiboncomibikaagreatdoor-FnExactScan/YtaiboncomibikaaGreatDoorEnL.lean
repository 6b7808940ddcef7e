/- The program's table of entries: whether one lasts, fits, is ahead, its key; the place of a key. -/
import Derived.Test.YtaiboncomibikaaGreatDoorEnK
import Derived.Test.YtaiboncomibikaaGreatDoorEnD
namespace Go.Proofs.YtaiboncomibikaaGreatDoor
open Go.RowKit
set_option linter.unusedVariables false

theorem timeOk_any (n : Int) (w : World) : Calls Tryz.prog 26 #[.int .i64 n] w fun x w' => x = .returned (.bool (nowOkB n)) ∧ w = w' := by
  rcases Int.lt_or_le n 0 with h | h
  · have h1 : decide ((0 : Int) ≤ n) = false := by simp; omega
    go_enter Tryz.func26, Tryz.ntmps26
    go_wp2_with fail
    go_ret
    exact ⟨ret_bool (by unfold nowOkB; rw [h1]; rfl), rfl⟩
  · have h1 : decide ((0 : Int) ≤ n) = true := by simp; omega
    go_enter Tryz.func26, Tryz.ntmps26
    go_wp2_with fail
    go_ret
    exact ⟨ret_bool (by unfold nowOkB; rw [h1, Bool.true_and]), rfl⟩
def lastsB (e : Ent) (n : Int) : Bool := decide (e.til = 0) || decide (n < e.til)
set_option maxHeartbeats 1000000 in
theorem lasts_any (e : Ent) (al as_ af : Option Addr) (cl cs cf : Nat) (n : Int) (w : World) :
    Calls Tryz.prog 46 #[enV e (.slice al e.list.length cl) (.slice as_ e.scores.length cs) (.slice af e.fields.length cf), .int .i64 n] w fun x w' => x = .returned (.bool (lastsB e n)) ∧ Below w.heap.size w w' := by
  by_cases h : e.til = 0
  · have h1 : (e.til == 0) = true := by simpa using h
    have HF : Hid (lastsB e n = true) := by show _ = _; unfold lastsB; simp [h]
    clear h
    go_enter Tryz.func46, Tryz.ntmps46
    go_wp2_with fail
    go_ret
    exact ⟨ret_bool HF.out.symm, (Below.refl _ w).alloc (Nat.le_refl _) _⟩
  · have h1 : (e.til == 0) = false := by simpa using h
    have HF : Hid (lastsB e n = decide (n < e.til)) := by show _ = _; unfold lastsB; simp [h]
    clear h
    go_enter Tryz.func46, Tryz.ntmps46
    go_wp2_with fail
    go_ret
    exact ⟨ret_bool HF.out.symm, (Below.refl _ w).alloc (Nat.le_refl _) _⟩
set_option maxHeartbeats 1000000 in
theorem entryKey_any (e : Ent) (al as_ af : Option Addr) (cl cs cf : Nat) (w : World) :
    Calls Tryz.prog 48 #[enV e (.slice al e.list.length cl) (.slice as_ e.scores.length cs) (.slice af e.fields.length cf)] w fun x w' => x = .returned (.string e.key) ∧ Below w.heap.size w w' := by
  go_enter Tryz.func48, Tryz.ntmps48
  go_wp2_with fail
  go_ret
  exact ⟨rfl, (Below.refl _ w).alloc (Nat.le_refl _) _⟩
set_option maxHeartbeats 1000000 in
theorem entryAhead_any (e d : Ent) (al as_ af bl bs bf : Option Addr) (cl cs cf dl ds df : Nat) (w : World) :
    Calls Tryz.prog 47 #[enV e (.slice al e.list.length cl) (.slice as_ e.scores.length cs) (.slice af e.fields.length cf), enV d (.slice bl d.list.length dl) (.slice bs d.scores.length ds) (.slice bf d.fields.length df)] w fun x w' => x = .returned (.bool (Op.bytesLess e.key.toList d.key.toList)) ∧ Below w.heap.size w w' := by
  go_enter Tryz.func47, Tryz.ntmps47
  go_wp2_with fail
  go_ret
  exact ⟨rfl, ((Below.refl _ w).alloc (Nat.le_refl _) _).alloc (by simp) _⟩
set_option maxHeartbeats 4000000 in
theorem entryFits_any (e : Ent) (al as_ af : Option Addr) (cl cs cf B : Nat) (n : Int) (v : Value) (w : World) (hr : EnReads w (.slice al e.list.length cl) (.slice as_ e.scores.length cs) (.slice af e.fields.length cf) e) (hs : EnSmall e) (hb : w.heap[B]? = some (.cells #[.int .i64 n, v] 31 (0, 0))) :
    Calls Tryz.prog 44 #[enV e (.slice al e.list.length cl) (.slice as_ e.scores.length cs) (.slice af e.fields.length cf), .pointer (some ⟨B, 0, none⟩)] w fun x w' => x = .returned (.bool (enOkB e && lastsB e n)) ∧ Below w.heap.size w w' := by
  have hB0 : Below w.heap.size w (w.alloc (.cells #[.string e.key, .int .i64 e.til, .int .i64 e.kind, .string e.text, .slice al e.list.length cl, .slice as_ e.scores.length cs, .slice af e.fields.length cf] 43)) := (Below.refl _ w).alloc (Nat.le_refl _) _
  have hlt : B < w.heap.size := (Array.getElem?_eq_some_iff.1 hb).1
  have HQ : Hid _ := hb
  clear hb
  go_enter Tryz.func44, Tryz.ntmps44
  go_wp2_with fail
  refine (implEntryOk_any e _ _ _ _ (enReads_kept hr hB0) hs hs.key hs.text).mono ?_
  rintro x w1 ⟨rfl, hb1⟩
  have hB1 := hB0.trans (hb1.mono hB0.size)
  have e1 := (hb1.block w.heap.size (by simp)).trans (heap_alloc_new _ _)
  have q1 := (hB1.block B hlt).trans HQ.out
  have c0 := (box7_row e1).c0
  have c1 := (box7_row e1).c1
  have c2 := (box7_row e1).c2
  have c3 := (box7_row e1).c3
  have c4 := (box7_row e1).c4
  have c5 := (box7_row e1).c5
  have c6 := (box7_row e1).c6
  have d0 : w1.cell? ⟨B, 0, none⟩ = some (.int .i64 n) := by rw [cell_of_row _ _ _ _ _ _ q1]; rfl
  clear hb1 hB0 e1 q1 hr
  cases hE : enOkB e with
  | false =>
    go_wp2_with fail
    go_ret
    exact ⟨ret_bool (by simp [hE]), hB1⟩
  | true =>
    go_wp2_with fail
    refine (lasts_any e _ _ _ _ _ _ n _).mono ?_
    rintro x w2 ⟨rfl, hb2⟩
    have hB2 := hB1.trans (hb2.mono hB1.size)
    clear hb2 hB1 c0 c1 c2 c3 c4 c5 c6 d0
    go_wp2_with fail
    go_ret
    exact ⟨ret_bool (by simp [hE]), hB2⟩

/-- the first place of a key; -1 if it is nowhere -/
def esIdx (l : List Row) (s : ByteArray) : Nat := l.findIdx (fun y => decide (y.e.key = s))
def esPlc (l : List Row) (s : ByteArray) : Int := if esIdx l s < l.length then (esIdx l s : Int) else -1
def esNo (l : List Row) (s : ByteArray) (k : Nat) : Prop := ∀ j, j < k → (esAt l j).e.key ≠ s
theorem esPlc_hit {l : List Row} {s : ByteArray} {k : Nat} (hk : k < l.length) (hn : esNo l s k) (h : (esAt l k).e.key = s) : esIdx l s = k ∧ esPlc l s = (k : Int) := by
  have e : esIdx l s = k := by
    unfold esIdx
    rw [List.findIdx_eq hk]
    refine ⟨by rw [← esAt_get hk]; simpa using h, fun j hj => ?_⟩
    have := hn j hj
    rw [esAt_get (by omega)] at this
    simpa using this
  exact ⟨e, by unfold esPlc; rw [e, if_pos hk]⟩
theorem esPlc_none {l : List Row} {s : ByteArray} (hn : esNo l s l.length) : esPlc l s = -1 := by
  unfold esPlc
  rw [if_neg]
  unfold esIdx
  rw [List.findIdx_lt_length]
  rintro ⟨x, hx, h⟩
  obtain ⟨j, hj, rfl⟩ := List.getElem_of_mem hx
  have := hn j hj
  rw [esAt_get hj] at this
  exact this (by simpa using h)
theorem esNo_step {l : List Row} {s : ByteArray} {k : Nat} (hn : esNo l s k) (h : (esAt l k).e.key ≠ s) : esNo l s (k + 1) := by
  intro j hj
  by_cases e : j = k
  · rw [e]; exact h
  · exact hn j (by omega)

set_option maxHeartbeats 4000000 in
theorem esPlace_any (v : Value) (l : List Row) (s : ByteArray) (B : Nat) (w : World) (hr : EsReads w v l) (hlen : l.length ≤ 1048576) :
    Calls Tryz.prog 49 #[.agg #[v, .int .i64 12, .func (.func 47) #[] #[], .func (.func 48) #[] #[], .func (.func 44) #[] #[.pointer (some ⟨B, 0, none⟩)]], .string s] w fun x w' => x = .returned (.int .i64 (esPlc l s)) ∧ Below w.heap.size w w' := by
  obtain ⟨ao, cap, rfl⟩ := readsR_shape hr.rows
  go_enter Tryz.func49, Tryz.ntmps49
  go_wp2_with fail
  have hB0 : Below w.heap.size w (w.alloc (.cells #[.slice ao l.length cap, .int .i64 12, .func (.func 47) #[] #[], .func (.func 48) #[] #[], .func (.func 44) #[] #[.pointer (some ⟨B, 0, none⟩)]] 61)) := (Below.refl _ w).alloc (Nat.le_refl _) _
  have hc2 : (w.alloc (.cells #[.slice ao l.length cap, .int .i64 12, .func (.func 47) #[] #[], .func (.func 48) #[] #[], .func (.func 44) #[] #[.pointer (some ⟨B, 0, none⟩)]] 61)).cell? ⟨w.heap.size, 3, none⟩ = some (.func (.func 48) #[] #[]) := by
    rw [cell_of_row _ _ _ _ _ _ (heap_alloc_new w _)]; rfl
  go_loopw [10] (fun i wr => ∃ k : Nat, k ≤ l.length ∧ i = .int .i64 k ∧ esNo l s k ∧ wr.cell? ⟨w.heap.size, 3, none⟩ = some (.func (.func 48) #[] #[]) ∧ Below w.heap.size w wr ∧ w.heap.size < wr.heap.size) (fun i _ => l.length - (intOf i).toNat)
  case atStart => exact ⟨0, Nat.zero_le _, rfl, fun j hj => by omega, hc2, hB0, by simp⟩
  case round =>
    obtain ⟨k, hk, rfl, hno, hcn, hB, hsz⟩ := hrel
    clear hB0 hc2
    by_cases hlt : k < l.length
    · obtain ⟨b, off, rfl, hb, _, _, hc⟩ := es_some hr.rows (by omega)
      obtain ⟨c0, c1, c2, c3, c4, c5, c6⟩ := es_cells hc hB hb hlt
      have hk1 : (k : Int) < (l.length : Int) := by omega
      clear hc
      go_wp2_with fail
      refine (entryKey_any (esAt l k).e _ _ _ _ _ _ _).mono ?_
      rintro x w3 ⟨rfl, hb3⟩
      have hz3 := hb3.size
      rw [World.size_alloc] at hz3
      have hB3 : Below w.heap.size w w3 := (hB.alloc (Nat.le_of_lt hsz) _).trans (hb3.mono (by simp; omega))
      have hcn3 : w3.cell? ⟨w.heap.size, 3, none⟩ = some (.func (.func 48) #[] #[]) :=
        (hb3.cell (p := ⟨w.heap.size, 3, none⟩) (by simp; omega)).trans (((Below.refl _ wr).alloc (Nat.le_refl _) _).cell (p := ⟨w.heap.size, 3, none⟩) hsz |>.trans hcn)
      clear hb3 hB hcn c0 c1 c2 c3 c4 c5 c6
      by_cases he : (esAt l k).e.key = s
      · have hs : ((esAt l k).e.key.toList == s.toList) = true := by rw [he]; simp
        have HP : Hid (esPlc l s = (k : Int)) := (esPlc_hit hlt hno he).2
        clear he
        go_wp2_with fail
        go_ret
        exact ⟨ret_int' HP.out.symm, hB3⟩
      · have hs : ((esAt l k).e.key.toList == s.toList) = false := by
          cases hh : ((esAt l k).e.key.toList == s.toList) with
          | false => rfl
          | true => exact absurd (toList_eq (by simpa using hh)) he
        have HP : Hid (esNo l s (k + 1)) := esNo_step hno he
        clear he
        go_wp2_with fail
        go_roundw
        case rel => exact ⟨k + 1, hlt, by go_num, HP.out, hcn3, hB3, by omega⟩
        case measure => simp [intOf]; omega
    · obtain rfl : k = l.length := by omega
      go_wp2_with fail
      go_ret
      exact ⟨ret_int' (esPlc_none hno).symm, hB⟩
end Go.Proofs.YtaiboncomibikaaGreatDoor
