/- The bytes of an order, and the model's OrderPut. -/
import Derived.Test.YtfoflnolmlgnfaaDoorDec
import Derived.Test.YtfoflnolmlgnfaaDoorOkT
import Derived.Lib.ItoaNum
namespace Go.Proofs.YtfoflnolmlgnfaaDoor
open Go.RowKit

def crlf : List UInt8 := [13, 10]
/-- a text with its length -/
def bulkL (s : ByteArray) : List UInt8 := 36 :: Lib.decDigits s.size ++ crlf ++ s.data.toList ++ crlf
def bulksL (l : List ByteArray) : List UInt8 := (l.map bulkL).flatten
def headL (c : UInt8) (n : Nat) : List UInt8 := c :: Lib.decDigits n ++ crlf
def orderL (l : List ByteArray) : List UInt8 := headL 42 l.length ++ bulksL l
/-- what an order is -/
def ordB (l : List ByteArray) : Bool := decide (1 ≤ l.length) && decide (l.length ≤ 8) && short l
def putL (l : List ByteArray) : List UInt8 := if ordB l = true then orderL l else []
theorem dec_len : ((List.range 100).all fun n => decide ((Lib.decDigits n).length ≤ 2)) = true := by decide +kernel
theorem dec_short {n : Nat} (h : n < 100) : (Lib.decDigits n).length ≤ 2 := by
  have := List.all_eq_true.1 dec_len n (List.mem_range.2 h); simpa using this
theorem decS_all : ((List.range 100).all fun n => decide ((decS 1 n).data.toList = Lib.decDigits n)) = true := by decide +kernel
theorem decS_is {n : Nat} (h : n < 100) : (decS 1 n).data.toList = Lib.decDigits n := by
  have := List.all_eq_true.1 decS_all n (List.mem_range.2 h); simpa using this
theorem bulk_len {s : ByteArray} (h : s.size ≤ 40) : (bulkL s).length ≤ 50 := by
  have := dec_short (n := s.size) (by omega)
  unfold bulkL crlf; simp; omega
theorem bulks_len : ∀ (l : List ByteArray), (∀ s ∈ l, s.size ≤ 40) → (bulksL l).length ≤ 50 * l.length
  | [], _ => by simp [bulksL]
  | s :: l, h => by
    have h1 := bulk_len (h s (by simp)); have h2 := bulks_len l (fun t ht => h t (by simp [ht]))
    unfold bulksL at h2 ⊢; simp only [List.map_cons, List.flatten_cons, List.length_append, List.length_cons]; omega
theorem bulks_step {l : List ByteArray} {k : Nat} (h : k < l.length) : bulksL (l.take (k + 1)) = bulksL (l.take k) ++ bulkL (at_ l k) := by
  rw [← List.take_append_getElem h, at_lt h]; unfold bulksL
  rw [List.map_append, List.flatten_append]; simp
theorem short_all {l : List ByteArray} (h : short l = true) : ∀ s ∈ l, s.size ≤ 40 := by
  intro s hs; have := List.all_eq_true.1 h s hs; simpa using this
theorem short_take {l : List ByteArray} (h : short l = true) (k : Nat) : ∀ s ∈ l.take k, s.size ≤ 40 := fun s hs => short_all h s (List.mem_of_mem_take hs)
theorem at_short {l : List ByteArray} (h : short l = true) {k : Nat} (hk : k < l.length) : (at_ l k).size ≤ 40 := by
  rw [at_lt hk]; exact short_all h _ (List.getElem_mem hk)
def ofL (l : List UInt8) : ByteArray := ⟨l.toArray⟩
theorem ofL_data (l : List UInt8) : (ofL l).data.toList = l := rfl
theorem ofL_size (l : List UInt8) : (ofL l).size = l.length := by show l.toArray.size = _; simp
theorem ofL_of (s : ByteArray) : ofL s.data.toList = s := rfl
theorem ofL_app (a b : List UInt8) : ofL a ++ ofL b = ofL (a ++ b) := by
  apply ByteArray.ext; apply Array.toList_inj.1; simp [ofL]
theorem ret_str {a b : ByteArray} (h : a = b) : Ending.returned (.string a) = .returned (.string b) := by rw [h]
theorem dec_of {n : Nat} (h : n < 100) : decS 1 n = ofL (Lib.decDigits n) := by rw [← decS_is h]; rfl

theorem l1Dec_small (n : Nat) (w : World) (h : n < 100) : Calls Tryd.prog 26 #[.int .i64 (n : Int)] w fun e w' => e = .returned (.string (ofL (Lib.decDigits n))) ∧ Below w.heap.size w w' := by
  have := l1Dec_any 1 n w (by omega) (by omega)
  rw [dec_of h] at this; exact this
theorem bulk_cat (s : ByteArray) : (ByteArray.mk #[36] ++ ofL (Lib.decDigits s.size) ++ ByteArray.mk #[13, 10] ++ s ++ ByteArray.mk #[13, 10]) = ofL (bulkL s) := by
  apply ByteArray.ext; apply Array.toList_inj.1; simp [ofL, bulkL, crlf]
theorem head_cat (n : Nat) : (ByteArray.mk #[42] ++ ofL (Lib.decDigits n) ++ ByteArray.mk #[13, 10]) = ofL (headL 42 n) := by
  apply ByteArray.ext; apply Array.toList_inj.1; simp [ofL, headL, crlf]
theorem dec_size {n : Nat} (h : n < 100) : (ofL (Lib.decDigits n)).size ≤ 2 := by rw [ofL_size]; exact dec_short h
theorem part_size {l : List ByteArray} (h : ordB l = true) (k : Nat) : (ofL (headL 42 l.length ++ bulksL (l.take k))).size ≤ 1000 := by
  unfold ordB at h
  simp only [Bool.and_eq_true, decide_eq_true_eq] at h
  have h1 := bulks_len (l.take k) (short_take h.2 k)
  have h2 := dec_short (n := l.length) (by omega)
  have h3 : (l.take k).length ≤ 8 := by rw [List.length_take]; omega
  rw [ofL_size]; unfold headL crlf; simp; omega
theorem part_next {l : List ByteArray} {k : Nat} (h : k < l.length) : ofL (headL 42 l.length ++ bulksL (l.take k)) ++ ofL (bulkL (at_ l k)) = ofL (headL 42 l.length ++ bulksL (l.take (k + 1))) := by
  rw [ofL_app, bulks_step h, List.append_assoc]
theorem part_all' {l : List ByteArray} {k : Nat} (hk : k ≤ l.length) (h : ¬ k < l.length) : ofL (headL 42 l.length ++ bulksL (l.take k)) = ofL (orderL l) := by
  rw [List.take_of_length_le (by omega)]; rfl
theorem ord_parts {l : List ByteArray} (h : ordB l = true) : 1 ≤ l.length ∧ l.length ≤ 8 ∧ short l = true := by
  unfold ordB at h
  simp only [Bool.and_eq_true, decide_eq_true_eq] at h; exact ⟨h.1.1, h.1.2, h.2⟩
theorem put_yes {l : List ByteArray} (h : ordB l = true) : putL l = orderL l := if_pos h
theorem put_no {l : List ByteArray} (h : ordB l = false) : putL l = [] := if_neg (by rw [h]; decide)
def inP (n lo hi : Int) : Bool := decide (lo ≤ n) && decide (n ≤ hi)
theorem l1InP_any (n lo hi : Int) (w : World) :
    Calls Tryd.prog 58 #[.int .i64 n, .int .i64 lo, .int .i64 hi] w fun e w' => e = .returned (.bool (inP n lo hi)) ∧ w' = w := by
  by_cases h1 : lo ≤ n
  · go_enter Tryd.func58, Tryd.ntmps58
    go_wp2
    go_ret
    exact ⟨by simp [inP, h1], rfl⟩
  · have h2 : n < lo := by omega
    have h3 : ¬ lo ≤ n := h1
    clear h1
    go_enter Tryd.func58, Tryd.ntmps58
    go_wp2
    go_ret
    exact ⟨by simp [inP]; omega, rfl⟩
theorem ord_not {l : List ByteArray} (h : short l = false) : ordB l = false := by unfold ordB; rw [h]; simp
theorem ord_in {l : List ByteArray} (h : short l = true) : inP (l.length : Int) 1 8 = ordB l := by
  unfold inP ordB; rw [h, Bool.and_true, Bool.eq_iff_iff]; simp only [Bool.and_eq_true, decide_eq_true_eq]; omega

set_option maxHeartbeats 1000000 in
theorem l1Args_any (v : Value) (l : List ByteArray) (w : World) (hr : Reads w v l) (hlen : l.length ≤ 1048576) :
    Calls Tryd.prog 31 #[v] w fun e w' => e = .returned (.bool (ordB l)) ∧ w' = w := by
  rcases hr with ⟨rfl, ao, cap, rfl, hcap⟩ | ⟨h0, b, off, cap, rfl, hb, hnc, hcm, hc⟩
  · go_enter Tryd.func31, Tryd.ntmps31
    go_wp2_with fail
    go_loop [3] (fun i => i = .int .i64 0) (fun _ => 0)
    case atStart => rfl
    case round =>
      obtain rfl := hrel
      go_wp2_with fail
      refine (l1InP_any _ _ _ _).mono ?_
      rintro e w' ⟨rfl, rfl⟩
      go_wp2_with fail
      go_ret
      exact ⟨rfl, rfl⟩
  · go_enter Tryd.func31, Tryd.ntmps31
    go_wp2_with fail
    go_loop [3] (fun i => ∃ k : Nat, k ≤ l.length ∧ i = .int .i64 k ∧ shortTo l k = true) (fun i => l.length - (intOf i).toNat)
    case atStart => exact ⟨0, Nat.zero_le _, rfl, rfl⟩
    case round =>
      obtain ⟨k, hk, rfl, hs⟩ := hrel
      have HS : Hid (shortTo l k = true) := hs
      clear hs
      by_cases hlt : k < l.length
      · have hcell := hc k hlt
        clear hc
        rcases Int.lt_or_le (40 : Int) ((at_ l k).size : Int) with h4 | h4
        · go_wp2_with fail
          go_ret
          exact ⟨ret_bool (ord_not (short_not hlt h4)).symm, rfl⟩
        · go_wp2_with fail
          go_round
          case rel => exact ⟨k + 1, by omega, by go_num, short_step hlt HS.out h4⟩
          case measure => simp [intOf]; omega
      · have HE : Hid (inP (l.length : Int) 1 8 = ordB l) := ord_in (short_end hk hlt HS.out)
        clear hc
        go_wp2_with fail
        refine (l1InP_any _ _ _ _).mono ?_
        rintro e w' ⟨rfl, rfl⟩
        go_wp2_with fail
        go_ret
        exact ⟨ret_bool HE.out, rfl⟩

set_option maxHeartbeats 1000000 in
theorem l1Bulk_any (s : ByteArray) (w : World) (hs : s.size ≤ 40) :
    Calls Tryd.prog 27 #[.string s] w fun e w' => e = .returned (.string (ofL (bulkL s))) ∧ Below w.heap.size w w' := by
  have hd := dec_size (n := s.size) (by omega)
  have HC : Hid ((ByteArray.mk #[36] ++ ofL (Lib.decDigits s.size) ++ ByteArray.mk #[13, 10] ++ s ++ ByteArray.mk #[13, 10]) = ofL (bulkL s)) := bulk_cat s
  go_enter Tryd.func27, Tryd.ntmps27
  go_wp2_with fail
  refine (l1Dec_small s.size _ (by omega)).mono ?_
  rintro e w1 ⟨rfl, hB⟩
  generalize ofL (Lib.decDigits s.size) = D at *
  go_wp2_with fail
  go_ret
  exact ⟨ret_str HC.out, hB⟩

set_option maxHeartbeats 1000000 in
theorem l1Order_any (v : Value) (l : List ByteArray) (w : World) (hr : Reads w v l) (ho : ordB l = true) :
    Calls Tryd.prog 32 #[v] w fun e w' => e = .returned (.string (ofL (orderL l))) ∧ Below w.heap.size w w' := by
  obtain ⟨h1, h8, hsh⟩ := ord_parts ho
  rcases hr with ⟨rfl, ao, cap, rfl, hcap⟩ | ⟨h0, b, off, cap, rfl, hb, hnc, hcm, hc⟩
  · simp at h1
  have hd := dec_size (n := l.length) (by omega)
  have HC : Hid ((ByteArray.mk #[42] ++ ofL (Lib.decDigits l.length) ++ ByteArray.mk #[13, 10]) = ofL (headL 42 l.length)) := head_cat _
  have HCC : Hid (∀ k, k < l.length → w.cell? ⟨b, off + k, none⟩ = some (.string (at_ l k))) := hc
  clear hc
  go_enter Tryd.func32, Tryd.ntmps32
  go_wp2_with fail
  refine (l1Dec_small l.length _ (by omega)).mono ?_
  rintro e w1 ⟨rfl, hB1⟩
  generalize ofL (Lib.decDigits l.length) = D at *
  go_wp2_with fail
  go_loopw [3, 4] (fun x i wr => ∃ (k : Nat), k ≤ l.length ∧ i = .int .i64 (k : Int) ∧ x = .string (ofL (headL 42 l.length ++ bulksL (l.take k))) ∧ Below w.heap.size w wr) (fun _ i _ => l.length - (intOf i).toNat)
  case atStart => exact ⟨0, Nat.zero_le _, rfl, by rw [HC.out]; simp [bulksL], hB1⟩
  case round =>
    obtain ⟨k, hk, rfl, rfl, hB⟩ := hrel
    have hsz := part_size ho k
    by_cases hlt : k < l.length
    · have hcell := (hB.cell (p := ⟨b, off + k, none⟩) hb).trans (HCC.out k hlt)
      have h40 := at_short hsh hlt
      have HN : Hid (ofL (headL 42 l.length ++ bulksL (l.take k)) ++ ofL (bulkL (at_ l k)) = ofL (headL 42 l.length ++ bulksL (l.take (k + 1)))) := part_next hlt
      have hbl : (ofL (bulkL (at_ l k))).size ≤ 50 := by rw [ofL_size]; exact bulk_len h40
      have HBK := fun W => l1Bulk_any (at_ l k) W h40
      have HBH : Hid (∀ W : World, Calls Tryd.prog 27 #[.string (at_ l k)] W fun e w' => e = .returned (.string (ofL (bulkL (at_ l k)))) ∧ Below W.heap.size W w') := HBK
      clear HBK HC
      generalize ofL (bulkL (at_ l k)) = Y at *
      generalize ofL (headL 42 l.length ++ bulksL (l.take k)) = X at *
      go_wp2_with fail
      refine (HBH.out _).mono ?_
      rintro e w2 ⟨rfl, hB2⟩
      have hB3 := hB.trans (hB2.mono hB.size)
      clear hB hB2
      go_wp2_with fail
      go_roundw
      case rel => exact ⟨k + 1, by omega, by go_num, by rw [HN.out], hB3⟩
      case measure => simp [intOf]; omega
    · have HN : Hid (ofL (headL 42 l.length ++ bulksL (l.take k)) = ofL (orderL l)) := part_all' hk hlt
      go_wp2_with fail
      go_ret
      exact ⟨ret_str HN.out, hB⟩

theorem specPut_any (v : Value) (l : List ByteArray) (w : World) (hr : Reads w v l) (hlen : l.length ≤ 1048576) :
    Calls Tryd.prog 11 #[v] w fun e w' => e = .returned (.string (ofL (putL l))) ∧ Below w.heap.size w w' := by
  cases ho : ordB l with
  | false =>
    rw [put_no ho]
    go_enter Tryd.func11, Tryd.ntmps11
    go_wp2_with fail
    refine (l1Args_any v l _ hr hlen).mono ?_
    rintro e w1 ⟨rfl, rfl⟩
    rw [ho]
    go_wp2_with fail
    go_ret
    exact ⟨rfl, Below.refl _ _⟩
  | true =>
    rw [put_yes ho]
    go_enter Tryd.func11, Tryd.ntmps11
    go_wp2_with fail
    refine (l1Args_any v l _ hr hlen).mono ?_
    rintro e w1 ⟨rfl, rfl⟩
    rw [ho]
    go_wp2_with fail
    refine (l1Order_any v l _ hr ho).mono ?_
    rintro e w2 ⟨rfl, hB⟩
    go_wp2_with fail
    go_ret
    exact ⟨rfl, hB⟩
end Go.Proofs.YtfoflnolmlgnfaaDoor
