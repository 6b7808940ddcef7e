/- The program's OrderPut: a Builder takes it word by word. -/
import Derived.Test.YtfoflnolmlgnfaaDoorPutM
import Derived.Test.YtfoflnolmlgnfaaDoorBld
namespace Go.Proofs.YtfoflnolmlgnfaaDoor
open Go.RowKit

/-- block b holds a Builder of the bytes l -/
def Bd (w : World) (B b : Nat) (l : List UInt8) : Prop := Lib.IsBuilder 50 5 B b (Lib.byteCells l) w
theorem write_any (B b : Nat) (l : List UInt8) (s : ByteArray) (w : World) (h : Bd w B b l) (hl : l.length ≤ 100000) (hs : s.size ≤ 100000) (hBw : B ≤ w.heap.size) :
    Calls Tryd.prog 53 #[.pointer (some ⟨b, 0, none⟩), .string s] w fun e w' => e = .returned (.tuple #[.int .i64 s.size, .nilIface]) ∧ Bd w' B b (l ++ s.data.toList) ∧ Below B w w' := by
  refine (writeString_any B b _ s w h (by rw [Lib.byteCells_length]; omega) hBw).mono ?_
  rintro e w' ⟨rfl, h1, h2⟩
  exact ⟨rfl, by unfold Bd; rw [Lib.byteCells_append, ← Lib.strCells_eq]; exact h1, h2⟩
theorem itoa_small (n : Nat) (w : World) (h : n < 100) : Calls Tryd.prog 65 #[.int .i64 (n : Int)] w fun e w' => e = .returned (.string (ofL (Lib.decDigits n))) ∧ w' = w := Tryd.strconv_Itoa_small n h w
theorem num_cat (c : UInt8) (n : Nat) : (ByteArray.mk #[c] ++ ofL (Lib.decDigits n) ++ ByteArray.mk #[13, 10]).data.toList = headL c n := by simp [ofL, headL, crlf]
theorem end_cat (s : ByteArray) : (s ++ ByteArray.mk #[13, 10]).data.toList = s.data.toList ++ crlf := by simp [crlf]

set_option maxHeartbeats 1000000 in
theorem putNumber_any (B b : Nat) (l : List UInt8) (c : UInt8) (n : Nat) (w : World) (h : Bd w B b l) (hl : l.length ≤ 100000) (hn : n < 100) (hBw : B ≤ w.heap.size) :
    Calls Tryd.prog 54 #[.pointer (some ⟨b, 0, none⟩), .string (ByteArray.mk #[c]), .int .i64 (n : Int)] w fun e w' => e = .returned (.tuple #[]) ∧ Bd w' B b (l ++ headL c n) ∧ Below B w w' := by
  have hd := dec_size hn
  have HC : Hid ((ByteArray.mk #[c] ++ ofL (Lib.decDigits n) ++ ByteArray.mk #[13, 10]).data.toList = headL c n) := num_cat c n
  have h1 : (ByteArray.mk #[c]).size = 1 := rfl
  have h2 : (ByteArray.mk #[13, 10]).size = 2 := rfl
  have hsum : (ByteArray.mk #[c] ++ ofL (Lib.decDigits n) ++ ByteArray.mk #[13, 10]).size ≤ 100000 := by rw [ByteArray.size_append, ByteArray.size_append, h1, h2]; omega
  have HI := itoa_small n
  generalize ofL (Lib.decDigits n) = D at *
  generalize ByteArray.mk #[c] = C at *
  go_enter Tryd.func54, Tryd.ntmps54
  go_wp2_with fail
  refine (HI _ hn).mono ?_
  rintro e w1 ⟨rfl, rfl⟩
  go_wp2_with fail
  refine (write_any B b l _ _ h hl hsum hBw).mono ?_
  rintro e w2 ⟨rfl, hb2, hB2⟩
  rw [HC.out] at hb2
  go_wp2_with fail
  go_end0
  exact ⟨rfl, hb2, hB2⟩
set_option maxHeartbeats 1000000 in
theorem putText_any (B b : Nat) (l : List UInt8) (s : ByteArray) (w : World) (h : Bd w B b l) (hl : l.length ≤ 50000) (hs : s.size ≤ 40) (hBw : B ≤ w.heap.size) :
    Calls Tryd.prog 55 #[.pointer (some ⟨b, 0, none⟩), .string s] w fun e w' => e = .returned (.tuple #[]) ∧ Bd w' B b (l ++ bulkL s) ∧ Below B w w' := by
  have h2 : (ByteArray.mk #[13, 10]).size = 2 := rfl
  have hsum : (s ++ ByteArray.mk #[13, 10]).size ≤ 100000 := by rw [ByteArray.size_append, h2]; omega
  have hd := dec_short (n := s.size) (by omega)
  have hlen : (l ++ headL 36 s.size).length ≤ 100000 := by unfold headL crlf; simp; omega
  have HE : Hid (l ++ headL 36 s.size ++ (s ++ ByteArray.mk #[13, 10]).data.toList = l ++ bulkL s) := by
    show _ = _; rw [end_cat]; unfold bulkL headL; simp
  go_enter Tryd.func55, Tryd.ntmps55
  go_wp2_with fail
  refine (putNumber_any B b l 36 s.size _ h (by omega) (by omega) hBw).mono ?_
  rintro e w1 ⟨rfl, hb1, hB1⟩
  have hBw1 := Nat.le_trans hBw hB1.size
  go_wp2_with fail
  refine (write_any B b _ _ _ hb1 hlen hsum hBw1).mono ?_
  rintro e w2 ⟨rfl, hb2, hB2⟩
  rw [HE.out] at hb2
  have hB3 := hB1.trans hB2
  clear hB1 hB2 hb1
  go_wp2_with fail
  go_end0
  exact ⟨rfl, hb2, hB3⟩
set_option maxHeartbeats 1000000 in
theorem putTexts_any (w0 : World) (b : Nat) (v : Value) (l : List ByteArray) (w : World) (hr : Reads w0 v l) (hB0 : Below w0.heap.size w0 w) (h : Bd w w0.heap.size b []) (ho : ordB l = true) :
    Calls Tryd.prog 30 #[.pointer (some ⟨b, 0, none⟩), v] w fun e w' => e = .returned (.tuple #[]) ∧ Bd w' w0.heap.size b (orderL l) ∧ Below w0.heap.size w0 w' := by
  obtain ⟨h1, h8, hsh⟩ := ord_parts ho
  rcases hr with ⟨rfl, ao, cap, rfl, hcap⟩ | ⟨h0, g, off, cap, rfl, hb, hnc, hcm, hc⟩
  · simp at h1
  have HCC : Hid (∀ k, k < l.length → w0.cell? ⟨g, off + k, none⟩ = some (.string (at_ l k))) := hc
  clear hc
  go_enter Tryd.func30, Tryd.ntmps30
  go_wp2_with fail
  refine (putNumber_any _ b [] 42 l.length _ h (by simp) (by omega) hB0.size).mono ?_
  rintro e w1 ⟨rfl, hb1, hB1⟩
  rw [List.nil_append] at hb1
  have hB2 := hB0.trans hB1
  clear hB0 hB1 h
  go_wp2_with fail
  go_loopw [12] (fun i wr => ∃ (k : Nat), k ≤ l.length ∧ i = .int .i64 (k : Int) ∧ Bd wr w0.heap.size b (headL 42 l.length ++ bulksL (l.take k)) ∧ Below w0.heap.size w0 wr) (fun i _ => l.length - (intOf i).toNat)
  case atStart => exact ⟨0, Nat.zero_le _, rfl, by simpa [bulksL] using hb1, hB2⟩
  case round =>
    obtain ⟨k, hk, rfl, hbd, hB⟩ := hrel
    clear hb1 hB2
    have hsz := part_size ho k
    rw [ofL_size] at hsz
    by_cases hlt : k < l.length
    · have hcell := (hB.cell (p := ⟨g, off + k, none⟩) hb).trans (HCC.out k hlt)
      have h40 := at_short hsh hlt
      have HN : Hid (headL 42 l.length ++ bulksL (l.take k) ++ bulkL (at_ l k) = headL 42 l.length ++ bulksL (l.take (k + 1))) := by
        show _ = _; rw [bulks_step hlt, List.append_assoc]
      go_wp2_with fail
      refine (putText_any _ b _ _ _ hbd (by omega) h40 hB.size).mono ?_
      rintro e w2 ⟨rfl, hb2, hB2⟩
      rw [HN.out] at hb2
      have hB3 := hB.trans hB2
      clear hB hB2 hbd
      go_wp2_with fail
      go_roundw
      case rel => exact ⟨k + 1, by omega, by go_num, hb2, hB3⟩
      case measure => simp [intOf]; omega
    · have HN : headL 42 l.length ++ bulksL (l.take k) = orderL l := by rw [List.take_of_length_le (by omega)]; rfl
      rw [HN] at hbd
      go_wp2_with fail
      go_end0
      exact ⟨rfl, hbd, hB⟩
theorem ord_few {l : List ByteArray} (h : l.length = 0) : ordB l = false := by unfold ordB; rw [h]; rfl
theorem ord_many {l : List ByteArray} (h : 8 < l.length) : ordB l = false := by
  unfold ordB; have : decide (l.length ≤ 8) = false := by simp; omega
  rw [this]; simp
theorem ord_short {l : List ByteArray} (h1 : 1 ≤ l.length) (h8 : l.length ≤ 8) : ordB l = short l := by
  unfold ordB; simp [h1, h8]
set_option maxHeartbeats 1000000 in
theorem orderOk_any (v : Value) (l : List ByteArray) (w : World) (hr : Reads w v l) (hlen : l.length ≤ 1048576) :
    Calls Tryd.prog 29 #[v] w fun e w' => e = .returned (.bool (ordB l)) ∧ w' = w := by
  obtain ⟨ao, cap, rfl⟩ := reads_shape hr
  rcases Int.lt_or_le (l.length : Int) 1 with h1 | h1
  · have HO : Hid (ordB l = false) := ord_few (by omega)
    go_enter Tryd.func29, Tryd.ntmps29
    go_wp2_with fail
    go_ret
    exact ⟨ret_bool HO.out.symm, rfl⟩
  rcases Int.lt_or_le (8 : Int) (l.length : Int) with h8 | h8
  · have HO : Hid (ordB l = false) := ord_many (by omega)
    go_enter Tryd.func29, Tryd.ntmps29
    go_wp2_with fail
    go_ret
    exact ⟨ret_bool HO.out.symm, rfl⟩
  have HO : Hid (ordB l = short l) := ord_short (by omega) (by omega)
  go_enter Tryd.func29, Tryd.ntmps29
  go_wp2_with fail
  refine (textsOk_any _ l _ hr hlen).mono ?_
  rintro e w1 ⟨rfl, rfl⟩
  go_wp2_with fail
  go_ret
  exact ⟨ret_bool HO.out.symm, rfl⟩
set_option maxHeartbeats 1000000 in
theorem implPut_any (v : Value) (l : List ByteArray) (w : World) (hr : Reads w v l) (hlen : l.length ≤ 1048576) :
    Calls Tryd.prog 10 #[v] w fun e w' => e = .returned (.string (ofL (putL l))) ∧ Below w.heap.size w w' := by
  cases ho : ordB l with
  | false =>
    rw [put_no ho]
    go_enter Tryd.func10, Tryd.ntmps10
    go_wp2_with fail
    refine (orderOk_any v l _ hr hlen).mono ?_
    rintro e w1 ⟨rfl, rfl⟩
    rw [ho]
    go_wp2_with fail
    go_ret
    exact ⟨rfl, Below.refl _ _⟩
  | true =>
    rw [put_yes ho]
    have h0 : Bd (w.alloc (.cells #[.pointer none, .slice none 0 0] 50)) w.heap.size w.heap.size [] := Lib.fresh_isBuilder 50 5 w
    have b0 : Below w.heap.size w (w.alloc (.cells #[.pointer none, .slice none 0 0] 50)) := (Below.refl _ w).alloc (Nat.le_refl _) _
    go_enter Tryd.func10, Tryd.ntmps10
    go_wp2_with fail
    refine (orderOk_any v l _ hr hlen).mono ?_
    rintro e w1 ⟨rfl, rfl⟩
    rw [ho]
    go_wp2_with fail
    refine (putTexts_any _ _ v l _ hr b0 h0 ho).mono ?_
    rintro e w2 ⟨rfl, hb2, hB2⟩
    go_wp2_with fail
    refine (Tryd.Builder_String_any _ _ (orderL l) _ hb2 hB2.size).mono ?_
    rintro e w3 ⟨rfl, hB3⟩
    go_wp2_with fail
    go_ret
    exact ⟨rfl, hB2.trans hB3⟩
end Go.Proofs.YtfoflnolmlgnfaaDoor
