/- ListPush, the program's and the model's. -/
import Derived.Test.YtfcnhdaefleelaaPopI
import Derived.Test.YtfcnhdaefleelaaCopyS
import Derived.Deep.AppendLies
import Derived.Maps.AppendAt
import Derived.Deep.RegionWith
namespace Go.Proofs.Ytfcnhdaefleelaa
open Go.RowKit

def pushed (l : List ByteArray) (front : Bool) (ts : List ByteArray) : List ByteArray := if front = true then ts.reverse ++ l else l ++ ts
def pushB (l ts : List ByteArray) : Bool := okB l && okB ts && decide (l.length + ts.length ≤ 16)
def pushR (l : List ByteArray) (front : Bool) (ts : List ByteArray) : List ByteArray := if okB l = true then (if pushB l ts = true then pushed l front ts else l) else []
theorem pushed_snoc (l : List ByteArray) (front : Bool) (ts : List ByteArray) (s : ByteArray) : pushed l front (ts ++ [s]) = if front = true then s :: pushed l front ts else pushed l front ts ++ [s] := by
  cases front <;> simp [pushed]
theorem pushed_len (l : List ByteArray) (front : Bool) (ts : List ByteArray) : (pushed l front ts).length = l.length + ts.length := by
  cases front <;> simp [pushed]; omega
theorem pushed_nil (l : List ByteArray) (front : Bool) : pushed l front [] = l := by cases front <;> simp [pushed]

theorem pushed_step (l : List ByteArray) (front : Bool) (a : List ByteArray) (s : ByteArray) : pushed (pushed l front a) front [s] = pushed l front (a ++ [s]) := by
  cases front <;> simp [pushed]

/-- one push, at whichever end -/
theorem push_any (b f n : Nat) (sl : List ByteArray) (front : Bool) (s : ByteArray) (w : World) (h : RingAt w b sl f n) (hn : n < 16) :
    Calls Try.prog 49 #[.pointer (some ⟨b, 0, none⟩), .bool front, .string s] w fun e w' => e = .returned (.tuple #[]) ∧ (∃ sl' f', RingAt w' b sl' f' (n + 1) ∧ ringL sl' f' (n + 1) = pushed (ringL sl f n) front [s]) ∧ w.grownBy w' (some b) := by
  cases front with
  | false => exact (pushBack_any b f n sl s w h hn).mono fun _ _ ⟨h1, h2, h3⟩ => ⟨h1, ⟨_, _, h2, by rw [ringL_back s h.1 hn]; rfl⟩, h3⟩
  | true => exact (pushFront_any b f n sl s w h hn).mono fun _ _ ⟨h1, h2, h3⟩ => ⟨h1, ⟨_, _, h2, by rw [ringL_front s h.1 h.2.1 hn]; rfl⟩, h3⟩

set_option maxRecDepth 100000 in
set_option maxHeartbeats 4000000 in
theorem implPush_any (v u : Value) (l ts : List ByteArray) (front : Bool) (w : World) (hr : Reads w v l) (hq : Reads w u ts) (hlen : l.length ≤ 1048576) (hlen2 : ts.length ≤ 1048576) :
    Calls Try.prog 22 #[v, .bool front, u] w fun e w' => ∃ x, e = .returned (.tuple #[x, .bool (pushB l ts)]) ∧ Owns w' w.heap.size x (pushR l front ts) ∧ Below w.heap.size w w' := by
  obtain ⟨aq, capq, rfl⟩ := reads_shape hq
  cases hok : okB l with
  | false =>
    have HB : Hid (pushB l ts = false) := by show _ = _; unfold pushB; rw [hok]; rfl
    have HR : Hid (pushR l front ts = []) := by show _ = _; unfold pushR; rw [hok]; rfl
    go_enter Try.func22, Try.ntmps22
    go_wp2_with fail
    refine (ringOf_bad v l _ hr hlen hok).mono ?_
    rintro e w1 ⟨rfl, hB⟩
    have hs1 := hB.size
    have hi := infoRs (f := 0) (n := 0) (sl := none16) rfl
    go_wp2_with (refine wpList_store_row rfl 67 (.tmp 8) (.tmp 15) rfl w1.heap.size (ringArr none16 0 0) rfl rfl 67 (ringArr none16 0 0) (heap_alloc_new _ _) hi rfl ringArr_one ?_; show wpList _ _ _ _ _ (stored w1 none16 0 0))
    go_ret2
    exact ⟨_, by first | rfl | (rw [HB.out]; rfl), by rw [HR.out]; exact owns_nil _ _, below_stored hB hs1 _ _ _⟩
  | true =>
    have hn : l.length ≤ 16 := by unfold okB at hok; simp at hok; exact hok.1
    have HOK : Hid (okB l = true) := hok
    go_enter Try.func22, Try.ntmps22
    go_wp2_with fail
    refine (ringOf_ok v l _ hr hok).mono ?_
    rintro e w1 ⟨sl, rfl, hl, hL, hB⟩
    have hs1 := hB.size
    have hi := infoRs (f := 0) (n := l.length) hl
    have hR := ring_stored w1 hl (f := 0) (n := l.length) (by omega) hn
    have hc := ring_size hR
    have hB2 := below_stored hB hs1 sl 0 l.length
    have HL : Hid (ringL sl 0 l.length = l) := hL
    have hs2 := stored_size w1 sl 0 l.length
    clear hL hr hok hB
    generalize hW : stored w1 sl 0 l.length = w2 at *
    have HWW : Hid (stored w1 sl 0 l.length = w2) := hW
    clear hW
    have hq2 := reads_kept hq hB2
    cases hb : pushB l ts with
    | false =>
      have HB : Hid (pushB l ts = false) := hb
      have HR : Hid (pushR l front ts = l) := by show _ = _; unfold pushR; rw [HOK.out, hb]; rfl
      have hcase : okB ts = false ∨ (okB ts = true ∧ 16 < (l.length : Int) + (ts.length : Int)) := by
        unfold pushB at hb; rw [HOK.out] at hb
        cases ht : okB ts with
        | false => exact .inl rfl
        | true => right; rw [ht] at hb; simp at hb; exact ⟨rfl, by omega⟩
      clear hb
      rcases hcase with ht | ⟨ht, hgt⟩
      all_goals
        go_wp2_with (first | (refine wpList_store_row rfl 67 (.tmp 8) (.tmp 15) rfl w1.heap.size (ringArr sl 0 l.length) rfl rfl 67 (ringArr none16 0 0) (heap_alloc_new _ _) hi (sizeRs hl) ringArr_one ?_; show wpList _ _ _ _ _ (stored w1 sl 0 l.length); rw [HWW.out]) | (go_at_call 28; refine (listOk_any _ ts _ hq2 hlen2).mono ?_; rintro e w' ⟨rfl, rfl⟩))
        refine (texts_any w1.heap.size 0 l.length sl _ hR).mono ?_
        rintro e w3 ⟨x, rfl, ho, hB3⟩
        rw [HL.out] at ho
        have hsz2 := hB2.size
        have hB4 := hB2.trans (hB3.mono hsz2)
        have ho2 := owns_base ho hsz2
        clear ho hB3
        go_wp2_with fail
        go_ret2
        exact ⟨_, by first | rfl | (rw [HB.out]; rfl), by rw [HR.out]; exact ho2, hB4⟩
    | true =>
      have HB : Hid (pushB l ts = true) := hb
      have HR : Hid (pushR l front ts = pushed l front ts) := by show _ = _; unfold pushR; rw [HOK.out, hb]; rfl
      have hts : okB ts = true := by unfold pushB at hb; simp only [Bool.and_eq_true] at hb; exact hb.1.2
      have hle : (l.length : Int) + (ts.length : Int) ≤ 16 := by unfold pushB at hb; simp only [Bool.and_eq_true, decide_eq_true_eq] at hb; omega
      clear hb
      go_wp2_with (first | (refine wpList_store_row rfl 67 (.tmp 8) (.tmp 15) rfl w1.heap.size (ringArr sl 0 l.length) rfl rfl 67 (ringArr none16 0 0) (heap_alloc_new _ _) hi (sizeRs hl) ringArr_one ?_; show wpList _ _ _ _ _ (stored w1 sl 0 l.length); rw [HWW.out]) | (go_at_call 28; refine (listOk_any _ ts _ hq2 hlen2).mono ?_; rintro e w' ⟨rfl, rfl⟩))
      go_loopw [11, 33] (fun _ i wr => ∃ (k : Nat) (sl' : List ByteArray) (f' : Nat), k ≤ ts.length ∧ i = .int .i64 k ∧ RingAt wr w1.heap.size sl' f' (l.length + k) ∧ ringL sl' f' (l.length + k) = pushed l front (ts.take k) ∧ Below w.heap.size w wr) (fun _ i _ => ts.length - (intOf i).toNat)
      case atStart => exact ⟨0, sl, 0, Nat.zero_le _, rfl, hR, by rw [List.take_zero, pushed_nil]; exact HL.out, hB2⟩
      case round =>
        obtain ⟨k, sl', f', hk, rfl, hRk, hLk, hBk⟩ := hrel
        have HLK : Hid (ringL sl' f' (l.length + k) = pushed l front (ts.take k)) := hLk
        clear hLk hR hc hB2 hq2 hs2
        have hszk := hBk.size
        by_cases hlt : k < ts.length
        · obtain ⟨b, off, rfl, hb, hcq⟩ := reads_some hq (by omega)
          have hcell : wr.cell? ⟨b, off + k, none⟩ = some (.string (at_ ts k)) := (hBk.cell (p := ⟨b, off + k, none⟩) hb).trans (hcq k hlt)
          clear hcq hq hts
          go_wp2_with (go_at_call 49; refine (push_any w1.heap.size f' (l.length + k) sl' front (at_ ts k) _ hRk (by omega)).mono ?_; rintro e w3 ⟨rfl, ⟨sl3, f3, hR3, hL3⟩, hg3⟩)
          go_roundw
          case rel => exact ⟨k + 1, sl3, f3, hlt, by go_num, hR3, by
            rw [← Nat.add_assoc, hL3, HLK.out, List.take_succ_eq_append_getElem hlt, at_lt hlt]
            exact pushed_step _ _ _ _, hBk.grown hg3 hszk (fun j hj => by simp at hj; omega)⟩
          case measure => simp [intOf]; omega
        · have e : k = ts.length := by omega
          subst e
          clear hq hts
          go_wp2_with fail
          refine (texts_any w1.heap.size f' (l.length + ts.length) sl' _ hRk).mono ?_
          rintro e w3 ⟨x, rfl, ho, hB3⟩
          rw [HLK.out, List.take_length] at ho
          have hB4 := hBk.trans (hB3.mono hszk)
          have ho2 := owns_base ho hszk
          clear ho hB3
          go_wp2_with fail
          go_ret2
          exact ⟨_, by first | rfl | (rw [HB.out]; rfl), by rw [HR.out]; exact ho2, hB4⟩

set_option maxHeartbeats 4000000 in
theorem l2Push_any (v u : Value) (l ts : List ByteArray) (front : Bool) (w : World) (hr : Reads w v l) (hq : Reads w u ts) (hlen : l.length ≤ 1000) (hlen2 : ts.length ≤ 1000) :
    Calls Try.prog 50 #[v, .bool front, u] w fun e w' => ∃ x, e = .returned x ∧ Owns w' w.heap.size x (pushed l front ts) ∧ Below w.heap.size w w' := by
  obtain ⟨i0, hi, hz0, hz1, hz2⟩ := info_parts infoS
  obtain ⟨aq, capq, rfl⟩ := reads_shape hq
  go_enter Try.func50, Try.ntmps50
  go_wp2_with fail
  refine (copy_any v l _ hr (by omega)).mono ?_
  rintro e w1 ⟨x1, rfl, ho1, hB1⟩
  clear hr
  go_wp2_with fail
  go_loopw [7, 8] (fun x i wr => ∃ k : Nat, k ≤ ts.length ∧ i = .int .i64 k ∧ Owns wr w.heap.size x (pushed l front (ts.take k)) ∧ Below w.heap.size w wr) (fun _ i _ => ts.length - (intOf i).toNat)
  case atStart => exact ⟨0, Nat.zero_le _, rfl, by rw [List.take_zero, pushed_nil]; exact ho1, hB1⟩
  case round =>
    obtain ⟨k, hk, rfl, ho, hB⟩ := hrel
    have hsz := hB.size
    clear ho1 hB1
    by_cases hlt : k < ts.length
    · obtain ⟨b, off, rfl, hb, hcq⟩ := reads_some hq (by omega)
      have hcell : wr.cell? ⟨b, off + k, none⟩ = some (.string (at_ ts k)) := (hB.cell (p := ⟨b, off + k, none⟩) hb).trans (hcq k hlt)
      have hlk : (pushed l front (ts.take k)).length ≤ 2000 := by rw [pushed_len]; simp; omega
      have HST : Hid (pushed (pushed l front (ts.take k)) front [at_ ts k] = pushed l front (ts.take (k + 1))) := by
        show _ = _; rw [List.take_succ_eq_append_getElem hlt, at_lt hlt]; exact pushed_step _ _ _ _
      clear hcq hq
      generalize pushed l front (ts.take k) = P at *
      unfold Owns at ho
      have hB2 := hB.alloc hsz (.cells #[.string (at_ ts k)] 9)
      cases front with
      | false =>
        go_wp2_with (at_builtin; refine wpList_append_own _ rfl (.tmp 25) (.tmp 30) 23 rfl w.heap.size 9 i0 (.string ByteArray.empty) 1 16 Try.underlying23 hi hz0 hz1 hz2 rfl (by decide) _ _ _ rfl (ho.alloc _) ⟨wr.heap.size, 0, none⟩ 1 1 [.string (at_ ts k)] rfl rfl (cell_one_new _ _ _) (strs_one [at_ ts k]) (by unfold maxLen; omega) (by omega) (by simp; omega) ?_)
        intro x2 w2 hown2 hgrow2 _
        have ho2 : Owns w2 w.heap.size x2 (pushed l false (ts.take (k + 1))) := by
          rw [← HST.out]; unfold Owns
          have : (pushed P false [at_ ts k]).length = P.length + 1 := by simp [pushed]
          rw [this]; simpa [pushed] using hown2
        have hB3 : Below w.heap.size w w2 := hB2.grown hgrow2 (by simp; omega) (fun j hj => (ho.lt j hj).1)
        clear hown2 hgrow2 ho hB2
        go_wp2_with fail
        go_roundw
        case rel => exact ⟨k + 1, hlt, by go_num, ho2, hB3⟩
        case measure => simp [intOf]; omega
      | true =>
        have hlit : (wr.alloc (.cells #[.string (at_ ts k)] 9)).ownsRow w.heap.size 9 1 (.slice (some ⟨wr.heap.size, 0, none⟩) 1 1) 1 [.string (at_ ts k)] := World.ownsRow_lit wr #[.string (at_ ts k)] 1 hsz (by unfold maxLen; omega) rfl
        have fin : ∀ (x2 : Value) (w2 : World) (n : Nat), n = P.length + 1 → w2.ownsRow w.heap.size 9 1 x2 n ([.string (at_ ts k)] ++ P.map Value.string) → Owns w2 w.heap.size x2 (pushed l true (ts.take (k + 1))) := fun x2 w2 n hn h => by
          rw [← HST.out]; unfold Owns
          have : (pushed P true [at_ ts k]).length = P.length + 1 := by simp [pushed]
          rw [this, ← hn]; simpa [pushed] using h
        have hoa := ho.alloc (.cells #[.string (at_ ts k)] 9)
        rcases ho.2 with ⟨rfl, hP0⟩ | ⟨g, cap, cur, rfl, hg0, _, _, _, _, _⟩
        · have hP : P = [] := List.length_eq_zero_iff.1 hP0
          subst hP
          go_wp2_with (at_builtin; refine wpList_append_own_none rfl (.tmp 22) (.tmp 23) 23 rfl w.heap.size 9 i0 1 Try.underlying23 hi _ _ _ rfl hlit rfl ?_)
          go_roundw
          case rel => exact ⟨k + 1, hlt, by go_num, fin _ _ 1 rfl hlit, hB2⟩
          case measure => simp [intOf]; omega
        · go_wp2_with (at_builtin; refine wpList_append_own _ rfl (.tmp 22) (.tmp 23) 23 rfl w.heap.size 9 i0 (.string ByteArray.empty) 1 16 Try.underlying23 hi hz0 hz1 hz2 rfl (by decide) _ _ _ rfl hlit ⟨g, 0, none⟩ P.length cap (P.map Value.string) rfl (by simp) (hoa.cells rfl) (strs_one P) (by unfold maxLen; omega) (by omega) (by simp; omega) ?_)
          intro x2 w2 hown2 hgrow2 _
          have ho2 := fin x2 w2 _ (by omega) hown2
          have hB3 : Below w.heap.size w w2 := hB2.grown hgrow2 (by simp; omega) (fun j hj => by simp [Value.ownBlock] at hj; omega)
          clear hown2 hgrow2 ho hB2 hoa hlit fin
          go_wp2_with fail
          go_roundw
          case rel => exact ⟨k + 1, hlt, by go_num, ho2, hB3⟩
          case measure => simp [intOf]; omega
    · have e : k = ts.length := by omega
      subst e
      rw [List.take_length] at ho
      clear hq
      go_wp2_with fail
      go_ret
      exact ⟨_, rfl, ho, hB⟩

set_option maxHeartbeats 4000000 in
theorem specPush_any (v u : Value) (l ts : List ByteArray) (front : Bool) (w : World) (hr : Reads w v l) (hq : Reads w u ts) (hlen : l.length ≤ 1048576) (hlen2 : ts.length ≤ 1048576) :
    Calls Try.prog 25 #[v, .bool front, u] w fun e w' => ∃ x, e = .returned (.tuple #[x, .bool (pushB l ts)]) ∧ Owns w' w.heap.size x (pushR l front ts) ∧ Below w.heap.size w w' := by
  have ho0 : Owns (w.alloc (.cells #[] 9)) w.heap.size (.slice (some ⟨w.heap.size, 0, none⟩) 0 0) [] := World.ownsRow_lit w #[] 0 (Nat.le_refl _) (by simp) rfl
  have hB0 : Below w.heap.size w (w.alloc (.cells #[] 9)) := (Below.refl _ _).alloc (Nat.le_refl _) _
  obtain ⟨aq, capq, rfl⟩ := reads_shape hq
  obtain ⟨al, capl, rfl⟩ := reads_shape hr
  cases hok : okB l with
  | false =>
    have HB : Hid (pushB l ts = false) := by show _ = _; unfold pushB; rw [hok]; rfl
    have HR : Hid (pushR l front ts = []) := by show _ = _; unfold pushR; rw [hok]; rfl
    go_enter Try.func25, Try.ntmps25
    go_wp2_with (go_at_call 35; refine (l2Texts_any _ l _ hr hlen).mono ?_; rintro e w' ⟨rfl, rfl⟩)
    go_ret2
    exact ⟨_, by first | rfl | (rw [HB.out]; rfl), by rw [HR.out]; exact ho0, hB0⟩
  | true =>
    have hn : l.length ≤ 16 := by unfold okB at hok; simp at hok; exact hok.1
    clear ho0 hB0
    cases hb : pushB l ts with
    | false =>
      have HB : Hid (pushB l ts = false) := hb
      have HR : Hid (pushR l front ts = l) := by show _ = _; unfold pushR; rw [hok, hb]; rfl
      have hcase : okB ts = false ∨ (okB ts = true ∧ 16 < (l.length : Int) + (ts.length : Int)) := by
        unfold pushB at hb; rw [hok] at hb
        cases ht : okB ts with
        | false => exact .inl rfl
        | true => right; rw [ht] at hb; simp at hb; exact ⟨rfl, by omega⟩
      clear hb
      rcases hcase with ht | ⟨ht, hgt⟩
      all_goals
        go_enter Try.func25, Try.ntmps25
        go_wp2_with (first | (go_at_call_of 35 aq; refine (l2Texts_any _ ts _ hq hlen2).mono ?_; rw [ht]; rintro e w' ⟨rfl, rfl⟩) | (go_at_call_of 35 al; refine (l2Texts_any _ l _ hr hlen).mono ?_; rw [hok]; rintro e w' ⟨rfl, rfl⟩))
        refine (copy_any _ l _ hr hlen).mono ?_
        rintro e w3 ⟨x, rfl, ho3, hb3⟩
        go_wp2_with fail
        go_ret2
        exact ⟨_, by first | rfl | (rw [HB.out]; rfl), by rw [HR.out]; exact ho3, hb3⟩
    | true =>
      have HB : Hid (pushB l ts = true) := hb
      have HR : Hid (pushR l front ts = pushed l front ts) := by show _ = _; unfold pushR; rw [hok, hb]; rfl
      have ht : okB ts = true := by unfold pushB at hb; simp only [Bool.and_eq_true] at hb; exact hb.1.2
      have hle : (l.length : Int) + (ts.length : Int) ≤ 16 := by unfold pushB at hb; simp only [Bool.and_eq_true, decide_eq_true_eq] at hb; omega
      clear hb
      go_enter Try.func25, Try.ntmps25
      go_wp2_with (first | (go_at_call_of 35 aq; refine (l2Texts_any _ ts _ hq hlen2).mono ?_; rw [ht]; rintro e w' ⟨rfl, rfl⟩) | (go_at_call_of 35 al; refine (l2Texts_any _ l _ hr hlen).mono ?_; rw [hok]; rintro e w' ⟨rfl, rfl⟩))
      refine (l2Push_any _ _ l ts front _ hr hq (by omega) (by omega)).mono ?_
      rintro e w3 ⟨x, rfl, ho3, hb3⟩
      go_wp2_with fail
      go_ret2
      exact ⟨_, by first | rfl | (rw [HB.out]; rfl), by rw [HR.out]; exact ho3, hb3⟩
theorem pushR_len (l : List ByteArray) (front : Bool) (ts : List ByteArray) (h : l.length ≤ 1048576) : (pushR l front ts).length ≤ 1048576 := by
  unfold pushR; split
  · split
    · rename_i hb; rw [pushed_len]; unfold pushB at hb; simp only [Bool.and_eq_true, decide_eq_true_eq] at hb; omega
    · exact h
  · simp
end Go.Proofs.Ytfcnhdaefleelaa
