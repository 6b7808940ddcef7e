/- What is put is read back, and what is read is put again: plain facts. -/
import Derived.Test.YtfoflnolmlgnfaaDoorOrdR
import Derived.Test.YtfoflnolmlgnfaaDoorPutM
namespace Go.Proofs.YtfoflnolmlgnfaaDoor
open Go.RowKit
open num

theorem dec_facts : ((List.range 100).all fun n => (Lib.decDigits n).all isDig && decide (1 ≤ (Lib.decDigits n).length) && decide (figs (Lib.decDigits n) = (n : Int))) = true := by decide +kernel
theorem dec_all {n : Nat} (h : n < 100) : (Lib.decDigits n).all isDig = true ∧ 1 ≤ (Lib.decDigits n).length ∧ figs (Lib.decDigits n) = (n : Int) := by
  have := List.all_eq_true.1 dec_facts n (List.mem_range.2 h)
  simp only [Bool.and_eq_true, decide_eq_true_eq] at this
  exact ⟨this.1.1, this.1.2, this.2⟩
theorem digs_app : ∀ (d t : List UInt8) (f : Nat), d.all isDig = true → d.length < f → digs f (d ++ 13 :: t) = d.length
  | [], t, f + 1, _, _ => rfl
  | c :: d, t, f + 1, h, hl => by
    rw [List.all_cons, Bool.and_eq_true] at h
    rw [List.cons_append, digs, if_pos h.1, digs_app d t f h.2 (by simpa using hl)]; rfl
/-- a head that was put -/
theorem head_put {n : Nat} (h : n < 100) (t : List UInt8) :
    digs 3 (Lib.decDigits n ++ 13 :: 10 :: t) = (Lib.decDigits n).length ∧ (Lib.decDigits n ++ 13 :: 10 :: t).take (Lib.decDigits n).length = Lib.decDigits n ∧ figs (Lib.decDigits n) = (n : Int) ∧
    (Lib.decDigits n ++ 13 :: 10 :: t).drop ((Lib.decDigits n).length + 2) = t ∧ ¬ (Lib.decDigits n ++ 13 :: 10 :: t).length ≤ (Lib.decDigits n).length + 1 ∧
    ∀ lo hi : Int, lo ≤ (n : Int) → (n : Int) ≤ hi → ¬ hbad (Lib.decDigits n) (Lib.decDigits n ++ 13 :: 10 :: t) (Lib.decDigits n).length lo hi := by
  obtain ⟨h1, h2, h3⟩ := dec_all h
  have h4 := dec_short h
  generalize Lib.decDigits n = d at *
  refine ⟨digs_app d (10 :: t) 3 h1 (by omega), by simp, h3, by simp, by simp, fun lo hi a b => ?_⟩
  unfold hbad
  rintro (⟨_, rfl | hq⟩ | ⟨_, hq⟩ | ⟨_, hq⟩)
  · simp at h2
  · exact hq (by simp)
  · exact hq (by simp)
  · rw [h3] at hq; simp [inB] at hq; omega
theorem bulk_split (s : ByteArray) (t : List UInt8) : bulkL s ++ t = 36 :: (Lib.decDigits s.size ++ 13 :: 10 :: (s.data.toList ++ 13 :: 10 :: t)) := by
  simp [bulkL, crlf]
theorem bulk_size (s : ByteArray) : (bulkL s).length = 1 + (Lib.decDigits s.size).length + 2 + s.size + 2 := by
  simp [bulkL, crlf]; omega
theorem drop_two (a t : List UInt8) (n : Nat) (h : a.length = n) : (a ++ 13 :: 10 :: t).drop (n + 2) = t := by subst h; simp
theorem ordL_one {f : Nat} {ws : List ByteArray} {s : ByteArray} {t : List UInt8} {p : Nat} (hs : s.size ≤ 40) :
    ordL (f + 1) ws (bulkL s ++ t) p = ordL f (ws ++ [s]) t (p + (bulkL s).length) := by
  obtain ⟨h1, h2, h3, h4, h5, h6⟩ := head_put (n := s.size) (by omega) (s.data.toList ++ 13 :: 10 :: t)
  have hl : s.data.toList.length = s.size := by simp
  rw [bulk_split, ordL, h1, h2, h3, h4, bulk_size]
  have hn : ((s.size : Int)).toNat = s.size := by omega
  rw [hn]
  have hh := h6 0 40 (by omega) (by omega)
  rw [if_neg (by rintro (hq | hq); exact hq rfl; exact hh hq), if_neg h5]
  have hw : ¬ wbad (s.data.toList ++ 13 :: 10 :: t) s.size := by
    unfold wbad
    rintro (⟨_, hq⟩ | ⟨_, hq⟩)
    · exact hq (by rw [← hl]; simp)
    · exact hq (by rw [← hl]; simp)
  rw [if_neg hw]
  have hlen : ¬ (s.data.toList ++ 13 :: 10 :: t).length < s.size + 2 := by rw [List.length_append, hl]; simp
  rw [if_neg hlen]
  have e1 : (s.data.toList ++ 13 :: 10 :: t).take s.size = s.data.toList := by rw [← hl]; simp
  have e2 : (s.data.toList ++ 13 :: 10 :: t).drop (s.size + 2) = t := drop_two _ _ _ hl
  rw [e1, e2]
  have e3 : (⟨s.data.toList.toArray⟩ : ByteArray) = s := rfl
  rw [e3]
  congr 1; omega
theorem ordL_put : ∀ (l ws : List ByteArray) (t : List UInt8) (p : Nat), (∀ s ∈ l, s.size ≤ 40) → ordL l.length ws (bulksL l ++ t) p = (ws ++ l, ((p + (bulksL l).length : Nat) : Int))
  | [], ws, t, p, _ => by simp [ordL, bulksL]
  | s :: l, ws, t, p, h => by
    have e : bulksL (s :: l) = bulkL s ++ bulksL l := by simp [bulksL]
    rw [e, List.append_assoc, List.length_cons, ordL_one (h s (List.mem_cons_self ..)), ordL_put l _ _ _ fun x hx => h x (List.mem_cons_of_mem _ hx)]
    simp; omega
/-- what is put is read back, whatever stands behind -/
theorem ordR_put {l : List ByteArray} (h : ordB l = true) (t : List UInt8) : ordR (putL l ++ t) = (l, ((putL l).length : Int)) := by
  obtain ⟨h1, h8, hs⟩ := ord_parts h
  rw [put_yes h]
  have e : orderL l ++ t = 42 :: (Lib.decDigits l.length ++ 13 :: 10 :: (bulksL l ++ t)) := by simp [orderL, headL, crlf]
  have el : (orderL l).length = (Lib.decDigits l.length).length + 3 + (bulksL l).length := by simp [orderL, headL, crlf]; omega
  obtain ⟨a1, a2, a3, a4, a5, a6⟩ := head_put (n := l.length) (by omega) (bulksL l ++ t)
  rw [e, ordR, a1, a2, a3, a4]
  have hh := a6 1 8 (by omega) (by omega)
  have hn : ((l.length : Int)).toNat = l.length := by omega
  rw [if_neg (by rintro (hq | hq); exact hq rfl; exact hh hq), if_neg a5, hn, ordL_put l [] t _ (short_all hs), el]
  simp

theorem two_figs : ((List.range 10).all fun i => decide (Lib.decDigits i = [UInt8.ofNat (48 + i)]) && (List.range 10).all fun j => decide (i = 0) || decide (Lib.decDigits (i * 10 + j) = [UInt8.ofNat (48 + i), UInt8.ofNat (48 + j)])) = true := by decide +kernel
theorem dig_two {c : UInt8} (h : isDig c = true) : ∃ i, i < 10 ∧ c = UInt8.ofNat (48 + i) ∧ c.toNat - 48 = i := by
  simp [isDig] at h
  refine ⟨c.toNat - 48, by omega, ?_, rfl⟩
  rw [show 48 + (c.toNat - 48) = c.toNat by omega]; simp
/-- figures of a small number are just those that it is written with -/
theorem dec_back {d : List UInt8} (h0 : 0 ≤ figs d) (h1 : figs d ≤ 40) : d = Lib.decDigits (figs d).toNat := by
  unfold figs at *
  split at h0
  · next hq =>
    rw [if_pos hq] at h1 ⊢
    obtain ⟨ha, hl, _, hn⟩ := hq
    have hlen : ¬ 3 ≤ d.length := fun hh => by have := long_val ha hh hn; omega
    show d = Lib.decDigits (Int.toNat (val d : Int))
    rw [Int.toNat_natCast]
    match d, ha, hl, hn, hlen with
    | [a], ha, _, _, _ =>
      rw [List.all_cons, Bool.and_eq_true] at ha
      obtain ⟨i, hi, rfl, hi2⟩ := dig_two ha.1
      have := List.all_eq_true.1 two_figs i (List.mem_range.2 hi)
      rw [Bool.and_eq_true, decide_eq_true_eq] at this
      have hv : val [UInt8.ofNat (48 + i)] = i := by simp only [val, num.step, List.foldl]; omega
      rw [hv, this.1]
    | [a, b], ha, _, hn, _ =>
      rw [List.all_cons, List.all_cons, Bool.and_eq_true, Bool.and_eq_true] at ha
      obtain ⟨i, hi, rfl, hi2⟩ := dig_two ha.1
      obtain ⟨j, hj, rfl, hj2⟩ := dig_two ha.2.1
      have := List.all_eq_true.1 two_figs i (List.mem_range.2 hi)
      rw [Bool.and_eq_true] at this
      have := List.all_eq_true.1 this.2 j (List.mem_range.2 hj)
      have hv : val [UInt8.ofNat (48 + i), UInt8.ofNat (48 + j)] = i * 10 + j := by simp only [val, num.step, List.foldl]; omega
      rw [Bool.or_eq_true, decide_eq_true_eq, decide_eq_true_eq] at this
      rcases this with rfl | this
      · simp [nought] at hn
      · rw [hv, this]
    | _ :: _ :: _ :: _, _, _, _, hlen => simp at hlen
  · exact absurd h0 (by decide)
/-- a head that is right is one that was put -/
theorem head_back {t : List UInt8} {lo hi : Int} (h0 : 0 ≤ lo) (hh : hi ≤ 40) (h : ¬ hbad (t.take (digs 3 t)) t (digs 3 t) lo hi) (hl : ¬ t.length ≤ digs 3 t + 1) :
    ∃ n : Nat, figs (t.take (digs 3 t)) = (n : Int) ∧ lo ≤ (n : Int) ∧ (n : Int) ≤ hi ∧ (Lib.decDigits n).length = digs 3 t ∧ t = Lib.decDigits n ++ 13 :: 10 :: t.drop (digs 3 t + 2) := by
  obtain ⟨a, b⟩ := num_in h hl
  have hd := dec_back (d := t.take (digs 3 t)) (by omega) (by omega)
  have hle := digs_le 3 t
  refine ⟨(figs (t.take (digs 3 t))).toNat, by omega, by omega, by omega, ?_, ?_⟩
  · rw [← hd, List.length_take]; omega
  · rw [← hd]
    unfold hbad at h
    have g1 : t[digs 3 t]'(by omega) = 13 := by
      have : t.getD (digs 3 t) 0 = 13 := Classical.byContradiction fun hq => h (.inl ⟨by omega, .inr hq⟩)
      rwa [List.getD_eq_getElem?_getD, List.getElem?_eq_getElem (by omega)] at this
    have g2 : t[digs 3 t + 1]'(by omega) = 10 := by
      have : t.getD (digs 3 t + 1) 0 = 10 := Classical.byContradiction fun hq => h (.inr (.inl ⟨by omega, hq⟩))
      rwa [List.getD_eq_getElem?_getD, List.getElem?_eq_getElem (by omega)] at this
    have e : t = t.take (digs 3 t) ++ (t[digs 3 t]'(by omega) :: t[digs 3 t + 1]'(by omega) :: t.drop (digs 3 t + 2)) := by
      conv => lhs; rw [← List.take_append_drop (digs 3 t) t]
      rw [List.drop_eq_getElem_cons (i := digs 3 t) (by omega), List.drop_eq_getElem_cons (i := digs 3 t + 1) (by omega)]
    rw [g1, g2] at e
    exact e
theorem ordL_back : ∀ (f : Nat) (ws : List ByteArray) (l : List UInt8) (p : Nat), 0 < (ordL f ws l p).2 →
    ∃ xs t, xs.length = f ∧ (∀ s ∈ xs, s.size ≤ 40) ∧ ordL f ws l p = (ws ++ xs, ((p + (bulksL xs).length : Nat) : Int)) ∧ l = bulksL xs ++ t
  | 0, ws, l, p, _ => ⟨[], l, rfl, by simp, by simp [ordL, bulksL], by simp [bulksL]⟩
  | f + 1, ws, [], p, h => absurd h (by simp [ordL])
  | f + 1, ws, c :: t, p, h => by
    rw [ordL] at h ⊢
    split at h
    · exact absurd h (by decide)
    · next h1 =>
      rw [if_neg h1]
      split at h
      · exact absurd h (by decide)
      · next h2 =>
        rw [if_neg h2]
        split at h
        · exact absurd h (by decide)
        · next h3 =>
          rw [if_neg h3]
          split at h
          · exact absurd h (by decide)
          · next h4 =>
            rw [if_neg h4]
            obtain ⟨n, hn, hn0, hn1, hdl, het⟩ := head_back (by omega) (by omega) (fun hq => h1 (.inr hq)) h2
            rw [hn] at h h3 h4 ⊢
            have hnn : ((n : Int)).toNat = n := by omega
            rw [hnn] at h h3 h4 ⊢
            generalize hT : t.drop (digs 3 t + 2) = T at *
            have hc : c = 36 := Classical.byContradiction fun hq => h1 (.inl hq)
            have hTl : ¬ T.length < n + 2 := h4
            have g1 : T[n]'(by omega) = 13 := by
              have : T.getD n 0 = 13 := Classical.byContradiction fun hq => h3 (.inl ⟨by omega, hq⟩)
              rwa [List.getD_eq_getElem?_getD, List.getElem?_eq_getElem (by omega)] at this
            have g2 : T[n + 1]'(by omega) = 10 := by
              have : T.getD (n + 1) 0 = 10 := Classical.byContradiction fun hq => h3 (.inr ⟨by omega, hq⟩)
              rwa [List.getD_eq_getElem?_getD, List.getElem?_eq_getElem (by omega)] at this
            have e : T = T.take n ++ (T[n]'(by omega) :: T[n + 1]'(by omega) :: T.drop (n + 2)) := by
              conv => lhs; rw [← List.take_append_drop n T]
              rw [List.drop_eq_getElem_cons (i := n) (by omega), List.drop_eq_getElem_cons (i := n + 1) (by omega)]
            rw [g1, g2] at e
            have hsz : (⟨(T.take n).toArray⟩ : ByteArray).size = n := by
              show (T.take n).toArray.size = n
              simp; omega
            have hdat : (⟨(T.take n).toArray⟩ : ByteArray).data.toList = T.take n := rfl
            obtain ⟨xs, r, hx1, hx2, hx3, hx4⟩ := ordL_back f _ _ _ h
            generalize hS : (⟨(T.take n).toArray⟩ : ByteArray) = S at *
            have hbs : bulksL (S :: xs) = bulkL S ++ bulksL xs := by simp [bulksL]
            refine ⟨S :: xs, r, by simp [hx1], ?_, ?_, ?_⟩
            · intro s hs
              rcases List.mem_cons.1 hs with rfl | hs
              · omega
              · exact hx2 s hs
            · rw [hx3, hbs, List.append_assoc]
              have := bulk_size S
              refine Prod.ext rfl ?_
              show ((_ : Nat) : Int) = ((_ : Nat) : Int)
              rw [List.length_append, this, hsz, hdl]
              omega
            · rw [hbs, List.append_assoc, bulk_split, hsz, hdat, ← hx4, hc, ← e, ← het]
/-- what is read is put again as it stood -/
theorem ordR_back (l : List UInt8) (h : 0 < (ordR l).2) : ordB (ordR l).1 = true ∧ putL (ordR l).1 = l.take (ordR l).2.toNat ∧ (ordR l).2 = ((putL (ordR l).1).length : Int) := by
  match l, h with
  | [], h => exact absurd h (by decide)
  | c :: t, h =>
    rw [ordR] at h ⊢
    split at h
    · exact absurd h (by decide)
    · next h1 =>
      rw [if_neg h1]
      split at h
      · exact absurd h (by decide)
      · next h2 =>
        rw [if_neg h2]
        obtain ⟨n, hn, hn0, hn1, hdl, het⟩ := head_back (by omega) (by omega) (fun hq => h1 (.inr hq)) h2
        rw [hn] at h ⊢
        have hnn : ((n : Int)).toNat = n := by omega
        rw [hnn] at h ⊢
        generalize hT : t.drop (digs 3 t + 2) = T at *
        have hc : c = 42 := Classical.byContradiction fun hq => h1 (.inl hq)
        obtain ⟨xs, r, hx1, hx2, hx3, hx4⟩ := ordL_back n [] T _ h
        rw [hx3, List.nil_append]
        have hB : ordB xs = true := by
          unfold ordB short
          simp only [Bool.and_eq_true, decide_eq_true_eq, List.all_eq_true]
          exact ⟨⟨by omega, by omega⟩, hx2⟩
        have hO : c :: t = orderL xs ++ r := by
          rw [hc, het, hx4]; simp [orderL, headL, crlf, hx1]
        have hL : ((digs 3 t + 3 + (bulksL xs).length : Nat) : Int) = ((orderL xs).length : Int) := by
          simp [orderL, headL, crlf, hx1, hdl]; omega
        refine ⟨hB, ?_, ?_⟩
        · show putL xs = (c :: t).take (Int.toNat ((_ : Nat) : Int))
          rw [put_yes hB, hL, Int.toNat_natCast, hO, List.take_left']
          rfl
        · rw [put_yes hB]; exact hL
end Go.Proofs.YtfoflnolmlgnfaaDoor
