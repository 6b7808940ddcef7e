/- A text moved from list to list: the program's and the model's. No condition but that what is read is a list. -/
import Derived.Test.YtfcnhdaefleelaaClS
import Derived.Test.YtfcnhdaefleelaaPopI
import Derived.Test.YtfcnhdaefleelaaPopS
import Derived.Test.YtfcnhdaefleelaaPushI
import Derived.Test.YtfcnhdaefleelaaOwn
namespace Go.Proofs.Ytfcnhdaefleelaa
open Go.RowKit
set_option linter.unusedVariables false

def popB (l : List ByteArray) : Bool := okB l && decide (0 < l.length)
def popTT (l : List ByteArray) (f : Bool) : ByteArray := if popB l = true then popT l f else ByteArray.empty
def popLL (l : List ByteArray) (f : Bool) : List ByteArray := if popB l = true then popL l f else []
theorem popB_of {l : List ByteArray} (h : popB l = true) : okB l = true ∧ 0 < l.length := by unfold popB at h; simpa using h
theorem implPop_all (v : Value) (l : List ByteArray) (f : Bool) (w : World) (hr : Reads w v l) (hlen : l.length ≤ 1048576) :
    Calls Try.prog 21 #[v, .bool f] w fun e w' => ∃ u, e = .returned (.tuple #[u, .string (popTT l f), .bool (popB l)]) ∧ Owns w' w.heap.size u (popLL l f) ∧ Below w.heap.size w w' := by
  cases hok : okB l with
  | false =>
    have hB : popB l = false := by unfold popB; rw [hok]; rfl
    have h1 : popTT l f = ByteArray.empty := by unfold popTT; rw [hB]; rfl
    have h2 : popLL l f = [] := by unfold popLL; rw [hB]; rfl
    rw [hB, h1, h2]
    exact implPop_bad v l f w hr hlen hok
  | true =>
    by_cases h0 : 0 < l.length
    · have hB : popB l = true := by unfold popB; rw [hok]; simpa using h0
      have h1 : popTT l f = popT l f := by unfold popTT; rw [hB]; rfl
      have h2 : popLL l f = popL l f := by unfold popLL; rw [hB]; rfl
      rw [hB, h1, h2]
      exact implPop_ok v l f w hr hok h0
    · obtain rfl : l = [] := List.length_eq_zero_iff.1 (by omega)
      exact implPop_none v f w hr
theorem specPop_all (v : Value) (l : List ByteArray) (f : Bool) (w : World) (hr : Reads w v l) (hlen : l.length ≤ 1048576) :
    Calls Try.prog 24 #[v, .bool f] w fun e w' => ∃ u, e = .returned (.tuple #[u, .string (popTT l f), .bool (popB l)]) ∧ Owns w' w.heap.size u (popLL l f) ∧ Below w.heap.size w w' := by
  cases hB : popB l with
  | false =>
    have h1 : popTT l f = ByteArray.empty := by unfold popTT; rw [hB]; rfl
    have h2 : popLL l f = [] := by unfold popLL; rw [hB]; rfl
    rw [h1, h2]
    refine specPop_bad v l f w hr hlen ?_
    unfold popB at hB
    cases hok : okB l with
    | false => exact .inl rfl
    | true => rw [hok] at hB; right; simpa using hB
  | true =>
    have h1 : popTT l f = popT l f := by unfold popTT; rw [hB]; rfl
    have h2 : popLL l f = popL l f := by unfold popLL; rw [hB]; rfl
    rw [h1, h2]
    exact specPop_ok v l f w hr (popB_of hB).1 (popB_of hB).2

/-- whether a text is moved; the lists behind it -/
def movB (a b : List ByteArray) (f : Bool) : Bool := popB a && pushB b [popTT a f]
def movA (a b : List ByteArray) (f : Bool) : List ByteArray := if movB a b f = true then popLL a f else a
def movR (a b : List ByteArray) (f g : Bool) : List ByteArray := if movB a b f = true then pushR b g [popTT a f] else b
theorem mov_no {a b : List ByteArray} {f : Bool} (g : Bool) (h : movB a b f = false) : movA a b f = a ∧ movR a b f g = b := by unfold movA movR; rw [h]; exact ⟨rfl, rfl⟩
theorem mov_yes {a b : List ByteArray} {f : Bool} (g : Bool) (h : movB a b f = true) : movA a b f = popLL a f ∧ movR a b f g = pushR b g [popTT a f] := by unfold movA movR; rw [h]; exact ⟨rfl, rfl⟩

/-- a list of one text, made new -/
theorem lit_reads (W : World) (s : ByteArray) : Reads (W.alloc (.cells #[.string s] 9)) (.slice (some ⟨W.heap.size, 0, none⟩) 1 1) [s] := by
  have h : Owns (W.alloc (.cells #[.string s] 9)) W.heap.size (.slice (some ⟨W.heap.size, 0, none⟩) 1 1) [s] := World.ownsRow_lit W #[.string s] 1 (Nat.le_refl _) (by unfold maxLen; omega) rfl
  exact owns_reads h
/-- two lists, each in a stretch of its own -/
def Two (w w' : World) (x y : Value) (l m : List ByteArray) : Prop := ∃ mid, w.heap.size ≤ mid ∧ mid ≤ w'.heap.size ∧ Own w' w.heap.size mid x l ∧ Own w' mid w'.heap.size y m
theorem two_of {w w1 w2 w3 : World} {x y : Value} {l m : List ByteArray} (hB : Below w.heap.size w w1) (hx : Own w2 w.heap.size w1.heap.size x l) (h12 : w1.heap.size ≤ w2.heap.size) (h23 : Below w2.heap.size w2 w3) (hy : Own w3 w1.heap.size w3.heap.size y m) : Two w w3 x y l m :=
  ⟨w1.heap.size, hB.size, Nat.le_trans h12 h23.size, own_kept hx h23, hy⟩
theorem own_lo {w : World} {lo lo' hi : Nat} {v : Value} {l : List ByteArray} (h : Own w lo hi v l) (hl : lo' ≤ lo) : Own w lo' hi v l := ⟨owns_base h.1 hl, h.2⟩

set_option maxHeartbeats 4000000 in
theorem implMove_any (v u : Value) (a b : List ByteArray) (f g : Bool) (w : World) (hr : Reads w v a) (hq : Reads w u b) (hlen : a.length ≤ 1048576) (hlen2 : b.length ≤ 1048576) :
    Calls Try.prog 7 #[v, u, .bool f, .bool g] w fun e w' => ∃ x y, e = .returned (.tuple #[x, y, .bool (movB a b f)]) ∧ Two w w' x y (movA a b f) (movR a b f g) ∧ Below w.heap.size w w' := by
  go_enter Try.func7, Try.ntmps7
  go_wp2_with fail
  refine (implPop_all v a f _ hr hlen).mono ?_
  rintro e w1 ⟨x1, rfl, ox1, hb1⟩
  have hr1 := reads_kept hr hb1
  have hq1 := reads_kept hq hb1
  have OX1 : Hid (Own w1 w.heap.size w1.heap.size x1 (popLL a f)) := own_of ox1
  clear ox1
  go_wp2_with fail
  have hbl : Below w1.heap.size w1 (w1.alloc (.cells #[.string (popTT a f)] 9)) := (Below.refl _ w1).alloc (Nat.le_refl _) _
  have hL := lit_reads w1 (popTT a f)
  obtain ⟨w2, hW⟩ : ∃ W, w1.alloc (.cells #[.string (popTT a f)] 9) = W := ⟨_, rfl⟩
  rw [hW] at hbl hL ⊢
  clear hW
  have hB2 := hb1.trans (hbl.mono hb1.size)
  refine (implPush_any u _ b [popTT a f] g _ (reads_kept hq1 hbl) hL hlen2 (by simp)).mono ?_
  rintro e w3 ⟨y3, rfl, oy3, hb3⟩
  have hB3 := hB2.trans (hb3.mono hB2.size)
  have hr3 := reads_kept hr hB3
  have hq3 := reads_kept hq hB3
  cases hP : popB a with
  | false =>
    have HM : Hid (movB a b f = false) := by show _ = _; unfold movB; rw [hP]; rfl
    clear oy3 hL hq1 hr1
    go_wp2_with fail
    refine (strClone_any v a _ hr3 hlen).mono ?_
    rintro e w4 ⟨x4, rfl, ox4, hb4⟩
    have hB4 := hB3.trans (hb4.mono hB3.size)
    go_wp2_with fail
    refine (strClone_any u b _ (reads_kept hq3 hb4) hlen2).mono ?_
    rintro e w5 ⟨y5, rfl, oy5, hb5⟩
    have hB5 := hB4.trans (hb5.mono hB4.size)
    have HT : Hid (Two w w5 x4 y5 a b) := ⟨w4.heap.size, hB4.size, hb5.size, own_lo (own_kept (own_of ox4) hb5) hB3.size, own_of oy5⟩
    clear ox4 oy5 hb4 hb5 hB4
    go_wp2_with fail
    go_ret3
    exact ⟨_, _, by rw [HM.out]; rfl, by rw [(mov_no g HM.out).1, (mov_no g HM.out).2]; exact HT.out, hB5⟩
  | true =>
    cases hQ : pushB b [popTT a f] with
    | false =>
      have HM : Hid (movB a b f = false) := by show _ = _; unfold movB; rw [hP, hQ]; rfl
      clear oy3 hL hq1 hr1
      go_wp2_with fail
      refine (strClone_any v a _ hr3 hlen).mono ?_
      rintro e w4 ⟨x4, rfl, ox4, hb4⟩
      have hB4 := hB3.trans (hb4.mono hB3.size)
      go_wp2_with fail
      refine (strClone_any u b _ (reads_kept hq3 hb4) hlen2).mono ?_
      rintro e w5 ⟨y5, rfl, oy5, hb5⟩
      have hB5 := hB4.trans (hb5.mono hB4.size)
      have HT : Hid (Two w w5 x4 y5 a b) := ⟨w4.heap.size, hB4.size, hb5.size, own_lo (own_kept (own_of ox4) hb5) hB3.size, own_of oy5⟩
      clear ox4 oy5 hb4 hb5 hB4
      go_wp2_with fail
      go_ret3
      exact ⟨_, _, by rw [HM.out]; rfl, by rw [(mov_no g HM.out).1, (mov_no g HM.out).2]; exact HT.out, hB5⟩
    | true =>
      have HM : Hid (movB a b f = true) := by show _ = _; unfold movB; rw [hP, hQ]; rfl
      have hbl3 := hbl.trans (hb3.mono hbl.size)
      have HT : Hid (Two w w3 x1 y3 (popLL a f) (pushR b g [popTT a f])) := ⟨w1.heap.size, hb1.size, hbl3.size, own_kept OX1.out hbl3, own_lo (own_of oy3) hbl.size⟩
      clear oy3 hL hq1 hr1
      go_wp2_with fail
      go_ret3
      exact ⟨_, _, by rw [HM.out]; rfl, by rw [(mov_yes g HM.out).1, (mov_yes g HM.out).2]; exact HT.out, hB3⟩
set_option maxHeartbeats 4000000 in
theorem specMove_any (v u : Value) (a b : List ByteArray) (f g : Bool) (w : World) (hr : Reads w v a) (hq : Reads w u b) (hlen : a.length ≤ 1048576) (hlen2 : b.length ≤ 1048576) :
    Calls Try.prog 8 #[v, u, .bool f, .bool g] w fun e w' => ∃ x y, e = .returned (.tuple #[x, y, .bool (movB a b f)]) ∧ Two w w' x y (movA a b f) (movR a b f g) ∧ Below w.heap.size w w' := by
  go_enter Try.func8, Try.ntmps8
  go_wp2_with fail
  refine (specPop_all v a f _ hr hlen).mono ?_
  rintro e w1 ⟨x1, rfl, ox1, hb1⟩
  have hr1 := reads_kept hr hb1
  have hq1 := reads_kept hq hb1
  have OX1 : Hid (Own w1 w.heap.size w1.heap.size x1 (popLL a f)) := own_of ox1
  clear ox1
  go_wp2_with fail
  have hbl : Below w1.heap.size w1 (w1.alloc (.cells #[.string (popTT a f)] 9)) := (Below.refl _ w1).alloc (Nat.le_refl _) _
  have hL := lit_reads w1 (popTT a f)
  obtain ⟨w2, hW⟩ : ∃ W, w1.alloc (.cells #[.string (popTT a f)] 9) = W := ⟨_, rfl⟩
  rw [hW] at hbl hL ⊢
  clear hW
  have hB2 := hb1.trans (hbl.mono hb1.size)
  refine (specPush_any u _ b [popTT a f] g _ (reads_kept hq1 hbl) hL hlen2 (by simp)).mono ?_
  rintro e w3 ⟨y3, rfl, oy3, hb3⟩
  have hB3 := hB2.trans (hb3.mono hB2.size)
  have hr3 := reads_kept hr hB3
  have hq3 := reads_kept hq hB3
  cases hP : popB a with
  | false =>
    have HM : Hid (movB a b f = false) := by show _ = _; unfold movB; rw [hP]; rfl
    clear oy3 hL hq1 hr1
    go_wp2_with fail
    refine (copy_any v a _ hr3 hlen).mono ?_
    rintro e w4 ⟨x4, rfl, ox4, hb4⟩
    have hB4 := hB3.trans (hb4.mono hB3.size)
    go_wp2_with fail
    refine (copy_any u b _ (reads_kept hq3 hb4) hlen2).mono ?_
    rintro e w5 ⟨y5, rfl, oy5, hb5⟩
    have hB5 := hB4.trans (hb5.mono hB4.size)
    have HT : Hid (Two w w5 x4 y5 a b) := ⟨w4.heap.size, hB4.size, hb5.size, own_lo (own_kept (own_of ox4) hb5) hB3.size, own_of oy5⟩
    clear ox4 oy5 hb4 hb5 hB4
    go_wp2_with fail
    go_ret3
    exact ⟨_, _, by rw [HM.out]; rfl, by rw [(mov_no g HM.out).1, (mov_no g HM.out).2]; exact HT.out, hB5⟩
  | true =>
    cases hQ : pushB b [popTT a f] with
    | false =>
      have HM : Hid (movB a b f = false) := by show _ = _; unfold movB; rw [hP, hQ]; rfl
      clear oy3 hL hq1 hr1
      go_wp2_with fail
      refine (copy_any v a _ hr3 hlen).mono ?_
      rintro e w4 ⟨x4, rfl, ox4, hb4⟩
      have hB4 := hB3.trans (hb4.mono hB3.size)
      go_wp2_with fail
      refine (copy_any u b _ (reads_kept hq3 hb4) hlen2).mono ?_
      rintro e w5 ⟨y5, rfl, oy5, hb5⟩
      have hB5 := hB4.trans (hb5.mono hB4.size)
      have HT : Hid (Two w w5 x4 y5 a b) := ⟨w4.heap.size, hB4.size, hb5.size, own_lo (own_kept (own_of ox4) hb5) hB3.size, own_of oy5⟩
      clear ox4 oy5 hb4 hb5 hB4
      go_wp2_with fail
      go_ret3
      exact ⟨_, _, by rw [HM.out]; rfl, by rw [(mov_no g HM.out).1, (mov_no g HM.out).2]; exact HT.out, hB5⟩
    | true =>
      have HM : Hid (movB a b f = true) := by show _ = _; unfold movB; rw [hP, hQ]; rfl
      have hbl3 := hbl.trans (hb3.mono hbl.size)
      have HT : Hid (Two w w3 x1 y3 (popLL a f) (pushR b g [popTT a f])) := ⟨w1.heap.size, hb1.size, hbl3.size, own_kept OX1.out hbl3, own_lo (own_of oy3) hbl.size⟩
      clear oy3 hL hq1 hr1
      go_wp2_with fail
      go_ret3
      exact ⟨_, _, by rw [HM.out]; rfl, by rw [(mov_yes g HM.out).1, (mov_yes g HM.out).2]; exact HT.out, hB3⟩
theorem movA_len (a b : List ByteArray) (f : Bool) (h : a.length ≤ 1048576) : (movA a b f).length ≤ 1048576 := by
  unfold movA popLL popL
  split
  · split
    · split
      · simp; omega
      · simp; omega
    · simp
  · exact h
theorem movR_len (a b : List ByteArray) (f g : Bool) (h : b.length ≤ 1048576) : (movR a b f g).length ≤ 1048576 := by
  unfold movR
  split
  · exact pushR_len b g _ h
  · exact h
end Go.Proofs.Ytfcnhdaefleelaa
