/- The model's OrderGet. -/
import Derived.Test.YtfoflnolmlgnfaaDoorOrdS
namespace Go.Proofs.YtfoflnolmlgnfaaDoor
open Go.RowKit
open num

def t3 (a : Int) (s : ByteArray) (b : Int) : Value := .tuple #[.int .i64 a, .string s, .int .i64 b]
theorem cons_of {s : ByteArray} (h : 0 < s.size) : s.data.toList = s.data.toList.headD 0 :: tl s := by
  unfold tl
  cases e : s.data.toList with
  | nil => have : s.data.toList.length = s.size := by simp
           rw [e] at this; simp at this; omega
  | cons c t => rfl
theorem nil_of {s : ByteArray} (h : s.size = 0) : s.data.toList = [] := List.length_eq_zero_iff.1 (by simpa using h)
theorem mkL_size (l : List UInt8) : (ByteArray.mk l.toArray).size = l.length := by show l.toArray.size = _; simp
theorem mkL_data (l : List UInt8) : (ByteArray.mk l.toArray).data.toList = l := rfl
theorem headN {s : ByteArray} {k : Nat} (hk : k < 256) : (s.data.toList.headD 0).toNat ≠ k ↔ s.data.toList.headD 0 ≠ UInt8.ofNat k := by
  rw [ne_eq, ne_eq, ← UInt8.toNat_inj]; simp; omega
theorem start_cases (s : ByteArray) : (hdV s 42 1 8 = t3 0 ⟨#[]⟩ 0 ∧ ordR s.data.toList = ([], 0)) ∨ (hdV s 42 1 8 = t3 0 ⟨#[]⟩ (-1) ∧ ordR s.data.toList = ([], -1)) ∨
    (∃ (n p : Nat) (body : ByteArray), hdV s 42 1 8 = t3 (n : Int) body 1 ∧ n ≤ 8 ∧ ordR s.data.toList = ordL n [] body.data.toList p ∧ p + body.size = s.size) := by
  by_cases h0 : s.size = 0
  · left; exact ⟨hd_zero h0, by rw [nil_of h0]; rfl⟩
  · have hc := cons_of (s := s) (by omega)
    have hn := headN (s := s) (k := 42) (by omega)
    unfold hdV
    rw [if_neg h0]
    by_cases hb : (s.data.toList.headD 0).toNat ≠ 42 ∨ hbad ((tl s).take (digs 3 (tl s))) (tl s) (digs 3 (tl s)) 1 8
    · right; left
      rw [if_pos hb]; refine ⟨rfl, ?_⟩
      rw [hc, ordR, if_pos (by rcases hb with hb | hb; exact .inl (hn.1 hb); exact .inr hb)]
    · rw [if_neg hb]
      have hb2 : ¬ hbad ((tl s).take (digs 3 (tl s))) (tl s) (digs 3 (tl s)) 1 8 := fun h => hb (.inr h)
      by_cases hl : (tl s).length ≤ digs 3 (tl s) + 1
      · left; rw [if_pos hl]; refine ⟨rfl, ?_⟩
        rw [hc, ordR, if_neg (by intro h; rcases h with h | h; exact hb (.inl (hn.2 h)); exact hb2 h), if_pos hl]
      · right; right
        have hin := num_in hb2 hl
        rw [if_neg hl]
        refine ⟨(figs ((tl s).take (digs 3 (tl s)))).toNat, digs 3 (tl s) + 3, ⟨((tl s).drop (digs 3 (tl s) + 2)).toArray⟩, ?_, by omega, ?_, ?_⟩
        · unfold t3; rw [Int.toNat_of_nonneg (by omega)]
        · rw [mkL_data]
          conv => lhs; rw [hc, ordR, if_neg (by intro h; rcases h with h | h; exact hb (.inl (hn.2 h)); exact hb2 h), if_neg hl]
        · rw [mkL_size, List.length_drop, tl_len]; rw [tl_len] at hl; omega
theorem step_cases (s : ByteArray) (f : Nat) (ws : List ByteArray) (p : Nat) : (hdV s 36 0 40 = t3 0 ⟨#[]⟩ 0 ∧ ordL (f + 1) ws s.data.toList p = ([], 0)) ∨ (hdV s 36 0 40 = t3 0 ⟨#[]⟩ (-1) ∧ ordL (f + 1) ws s.data.toList p = ([], -1)) ∨
    (∃ (k q : Nat) (body : ByteArray), hdV s 36 0 40 = t3 (k : Int) body 1 ∧ k ≤ 40 ∧ q + body.size = p + s.size ∧ body.size ≤ s.size ∧
      ordL (f + 1) ws s.data.toList p = (if wbad body.data.toList k then ([], -1) else if body.size < k + 2 then ([], 0) else ordL f (ws ++ [⟨(body.data.toList.take k).toArray⟩]) (body.data.toList.drop (k + 2)) (q + k + 2))) := by
  by_cases h0 : s.size = 0
  · left; exact ⟨hd_zero h0, by rw [nil_of h0]; rfl⟩
  · have hc := cons_of (s := s) (by omega)
    have hn := headN (s := s) (k := 36) (by omega)
    unfold hdV
    rw [if_neg h0]
    by_cases hb : (s.data.toList.headD 0).toNat ≠ 36 ∨ hbad ((tl s).take (digs 3 (tl s))) (tl s) (digs 3 (tl s)) 0 40
    · right; left
      rw [if_pos hb]; refine ⟨rfl, ?_⟩
      rw [hc, ordL, if_pos (by rcases hb with hb | hb; exact .inl (hn.1 hb); exact .inr hb)]
    · rw [if_neg hb]
      have hb2 : ¬ hbad ((tl s).take (digs 3 (tl s))) (tl s) (digs 3 (tl s)) 0 40 := fun h => hb (.inr h)
      by_cases hl : (tl s).length ≤ digs 3 (tl s) + 1
      · left; rw [if_pos hl]; refine ⟨rfl, ?_⟩
        rw [hc, ordL, if_neg (by intro h; rcases h with h | h; exact hb (.inl (hn.2 h)); exact hb2 h), if_pos hl]
      · right; right
        have hin := num_in hb2 hl
        rw [if_neg hl]
        refine ⟨(figs ((tl s).take (digs 3 (tl s)))).toNat, p + 1 + digs 3 (tl s) + 2, ⟨((tl s).drop (digs 3 (tl s) + 2)).toArray⟩, ?_, by omega, ?_, ?_, ?_⟩
        · unfold t3; rw [Int.toNat_of_nonneg (by omega)]
        · rw [mkL_size, List.length_drop, tl_len]; rw [tl_len] at hl; omega
        · rw [mkL_size, List.length_drop, tl_len]; omega
        · rw [mkL_data, mkL_size]
          conv => lhs; rw [hc, ordL, if_neg (by intro h; rcases h with h | h; exact hb (.inl (hn.2 h)); exact hb2 h), if_neg hl]
theorem data_at (s : ByteArray) (k : Nat) (h : k < s.size) : s.data.toList.getD k 0 = s[k] := by
  rw [List.getD_eq_getElem?_getD, List.getElem?_eq_getElem (by simpa using h)]; rfl
theorem wb_yes1 {s : ByteArray} {k : Nat} (h : k < s.size) (hb : ((s[k].toNat : Int) != 13) = true) : wbad s.data.toList k := by
  left; refine ⟨by simpa using h, ?_⟩; rw [data_at s k h]; intro e; exact bne_t hb (by rw [e]; rfl)
theorem wb_yes2 {s : ByteArray} {k : Nat} (h : k + 1 < s.size) (hb : ((s[k + 1].toNat : Int) != 10) = true) : wbad s.data.toList k := by
  right; refine ⟨by simpa using h, ?_⟩; rw [data_at s (k + 1) h]; intro e; exact bne_t hb (by rw [e]; rfl)
theorem wb_no {s : ByteArray} {k : Nat} (h1 : ∀ h : k < s.size, ((s[k].toNat : Int) != 13) = false) (h2 : ∀ h : k + 1 < s.size, ((s[k + 1].toNat : Int) != 10) = false) : ¬ wbad s.data.toList k := by
  rintro (⟨h, hb⟩ | ⟨h, hb⟩)
  · have h' : k < s.size := by simpa using h
    rw [data_at s k h'] at hb; apply hb; apply UInt8.toNat_inj.1; have := bne_f (h1 h'); show s[k].toNat = 13; omega
  · have h' : k + 1 < s.size := by simpa using h
    rw [data_at s (k + 1) h'] at hb; apply hb; apply UInt8.toNat_inj.1; have := bne_f (h2 h'); show s[k + 1].toNat = 10; omega
theorem ext_take0 (s : ByteArray) (k : Nat) : s.extract 0 k = ⟨(s.data.toList.take k).toArray⟩ := by
  apply ByteArray.ext; apply Array.toList_inj.1; rw [Lib.extract_data]; simp
theorem ext_drop0 (s : ByteArray) (k : Nat) : (s.extract k s.size).data.toList = s.data.toList.drop k := by
  rw [Lib.extract_data]; exact List.take_of_length_le (by simp)
theorem own_lit0 (w : World) : Owns (w.alloc (.cells #[] 9)) w.heap.size (.slice (some ⟨w.heap.size, 0, none⟩) 0 0) [] := World.ownsRow_lit w #[] 0 (Nat.le_refl _) (by simp) rfl
theorem below_lit0 (w : World) : Below w.heap.size w (w.alloc (.cells #[] 9)) := (Below.refl _ _).alloc (Nat.le_refl _) _
theorem below_dN (w : World) (m : Nat) : Below w.heap.size w (w.drewN m) := ⟨rfl, rfl, rfl, Nat.le_refl _, fun _ _ => rfl⟩
theorem below_dL (w : World) (m : Nat) : Below w.heap.size w ((w.drewN m).alloc (.cells #[] 9)) := (below_dN w m).trans (below_lit0 (w.drewN m))
theorem own_dL (w : World) (m : Nat) : Owns ((w.drewN m).alloc (.cells #[] 9)) w.heap.size (.slice (some ⟨w.heap.size, 0, none⟩) 0 0) [] := own_lit0 (w.drewN m)
theorem specGet_none (s : ByteArray) (w : World) (hs : s.size ≤ 1048576) (r : Int) (h : hdV s 42 1 8 = t3 0 ⟨#[]⟩ r) (hr : (r < 1)) (he : ordR s.data.toList = ([], r)) :
    Calls Tryd.prog 15 #[.string s] w fun e w' => ∃ wv, e = .returned (.tuple #[wv, .int .i64 (ordR s.data.toList).2]) ∧ Owns w' w.heap.size wv (ordR s.data.toList).1 ∧ Below w.heap.size w w' := by
  rw [he]
  unfold t3 at h
  have HH : Hid (hdV s 42 1 8 = .tuple #[.int .i64 0, .string ⟨#[]⟩, .int .i64 r]) := h
  clear h he
  go_enter Tryd.func15, Tryd.ntmps15
  go_wp2_with fail
  refine (l1Head_any s 42 1 8 _ hs).mono ?_
  rintro e wz ⟨rfl, m, rfl⟩
  rw [HH.out]
  go_wp2_with fail
  go_ret2
  exact ⟨_, rfl, own_dL w m, below_dL w m⟩
set_option maxHeartbeats 8000000 in
set_option maxRecDepth 100000 in
theorem specGet_any (s : ByteArray) (w : World) (hs : s.size ≤ 1048576) :
    Calls Tryd.prog 15 #[.string s] w fun e w' => ∃ wv, e = .returned (.tuple #[wv, .int .i64 (ordR s.data.toList).2]) ∧ Owns w' w.heap.size wv (ordR s.data.toList).1 ∧ Below w.heap.size w w' := by
  rcases start_cases s with ⟨h, he⟩ | ⟨h, he⟩ | ⟨n, p0, body0, h, hn8, he, hp0⟩
  · exact specGet_none s w hs 0 h (by omega) he
  · exact specGet_none s w hs (-1) h (by omega) he
  · obtain ⟨i0, hi, hz0, hz1, hz2⟩ := info_parts infoSt
    unfold t3 at h
    have HH : Hid (hdV s 42 1 8 = .tuple #[.int .i64 (n : Int), .string body0, .int .i64 1]) := h
    have HE : Hid (ordR s.data.toList = ordL n [] body0.data.toList p0) := he
    clear h he
    go_enter Tryd.func15, Tryd.ntmps15
    go_wp2_with fail
    refine (l1Head_any s 42 1 8 _ hs).mono ?_
    rintro e wz ⟨rfl, m, rfl⟩
    rw [HH.out]
    clear HH
    have ho0 := own_lit0 (w.drewN m)
    have hB0 : Below w.heap.size w ((w.drewN m).alloc (.cells #[] 9)) := below_dL w m
    go_wp2_with fail
    go_loopw [5, 7, 8] (fun rv x i wr => ∃ (j p : Nat) (ws : List ByteArray) (R : ByteArray), j ≤ n ∧ i = .int .i64 (j : Int) ∧ rv = .string R ∧ R.size + p = s.size ∧ ws.length = j ∧ Hid (ordR s.data.toList = ordL (n - j) ws R.data.toList p) ∧ Owns wr w.heap.size x ws ∧ Below w.heap.size w wr) (fun _ _ i _ => n - (intOf i).toNat)
    case atStart => exact ⟨0, p0, [], body0, Nat.zero_le _, rfl, rfl, by omega, rfl, HE, ho0, hB0⟩
    case round =>
      obtain ⟨j, p, ws, R, hj, rfl, rfl, hRp, hws, HR, ho, hB⟩ := hrel
      have hsz := hB.size
      clear ho0 hB0 HE
      by_cases hlt : j < n
      · obtain ⟨f, hf⟩ : ∃ f, n - j = f + 1 := ⟨n - j - 1, by omega⟩
        have HR2 := HR.out
        rw [hf] at HR2
        rcases step_cases R f ws p with ⟨h, he⟩ | ⟨h, he⟩ | ⟨k, q, body, h, hk, hq, hbs, he⟩
        · rw [he] at HR2
          have E1 : Hid (ordR s.data.toList = _) := HR2
          unfold t3 at h
          have HH : Hid (hdV R 36 0 40 = .tuple #[.int .i64 0, .string ⟨#[]⟩, .int .i64 0]) := h
          clear h he HR HR2
          go_wp2_with fail
          refine (l1Head_any R 36 0 40 _ (by omega)).mono ?_
          rintro e wz ⟨rfl, m3, rfl⟩
          rw [HH.out]
          go_wp2_with fail
          go_ret2
          exact ⟨_, by rw [E1.out]; rfl, by rw [E1.out]; exact owns_base (own_dL wr m3) hsz, hB.trans ((below_dL wr m3).mono hsz)⟩
        · rw [he] at HR2
          have E1 : Hid (ordR s.data.toList = _) := HR2
          unfold t3 at h
          have HH : Hid (hdV R 36 0 40 = .tuple #[.int .i64 0, .string ⟨#[]⟩, .int .i64 (-1)]) := h
          clear h he HR HR2
          go_wp2_with fail
          refine (l1Head_any R 36 0 40 _ (by omega)).mono ?_
          rintro e wz ⟨rfl, m3, rfl⟩
          rw [HH.out]
          go_wp2_with fail
          go_ret2
          exact ⟨_, by rw [E1.out]; rfl, by rw [E1.out]; exact owns_base (own_dL wr m3) hsz, hB.trans ((below_dL wr m3).mono hsz)⟩
        · rw [he] at HR2
          unfold t3 at h
          have HH : Hid (hdV R 36 0 40 = .tuple #[.int .i64 (k : Int), .string body, .int .i64 1]) := h
          have HR3 : Hid (ordR s.data.toList = (if wbad body.data.toList k then ([], -1) else if body.size < k + 2 then ([], 0) else ordL f (ws ++ [⟨(body.data.toList.take k).toArray⟩]) (body.data.toList.drop (k + 2)) (q + k + 2))) := HR2
          have HF : Hid (n - j = f + 1) := hf
          clear h he HR HR2 hf
          go_wp2_with fail
          refine (l1Head_any R 36 0 40 _ (by omega)).mono ?_
          rintro e wz ⟨rfl, m3, rfl⟩
          rw [HH.out]
          clear HH
          have hB3 : Below w.heap.size w (wr.drewN m3) := hB.trans ((below_dN wr m3).mono hsz)
          have ho3 : Owns (wr.drewN m3) w.heap.size _ ws := ho
          have hsz3 : w.heap.size ≤ (wr.drewN m3).heap.size := hsz
          clear hB ho hsz
          generalize wr.drewN m3 = w3 at *
          by_cases hk1 : k < body.size
          · have hk1' : (k : Int) < (body.size : Int) := by omega
            cases hq13 : ((body[k].toNat : Int) != 13) with
            | true =>
              have E1 : Hid (ordR s.data.toList = ([], -1)) := by show _ = _; rw [HR3.out, if_pos (wb_yes1 hk1 hq13)]
              go_wp2_with fail
              go_ret2
              exact ⟨_, by rw [E1.out]; rfl, by rw [E1.out]; exact owns_base (own_lit0 w3) hsz3, hB3.trans ((below_lit0 w3).mono hsz3)⟩
            | false =>
              by_cases hk2 : k + 1 < body.size
              · have hk2' : (k : Int) + 1 < (body.size : Int) := by omega
                cases hq10 : ((body[k + 1].toNat : Int) != 10) with
                | true =>
                  have E1 : Hid (ordR s.data.toList = ([], -1)) := by show _ = _; rw [HR3.out, if_pos (wb_yes2 hk2 hq10)]
                  go_wp2_with fail
                  go_ret2
                  exact ⟨_, by rw [E1.out]; rfl, by rw [E1.out]; exact owns_base (own_lit0 w3) hsz3, hB3.trans ((below_lit0 w3).mono hsz3)⟩
                | false =>
                  have e1 : ordR s.data.toList = ordL f (ws ++ [body.extract 0 k]) (body.extract (k + 2) body.size).data.toList (q + k + 2) := by
                    rw [HR3.out, if_neg (wb_no (fun _ => hq13) (fun _ => hq10)), if_neg (by omega), ext_take0, ext_drop0]
                  have HN : Hid (ordR s.data.toList = ordL f (ws ++ [body.extract 0 k]) (body.extract (k + 2) body.size).data.toList (q + k + 2)) := e1
                  have hk3 : (k : Int) + 2 ≤ (body.size : Int) := by omega
                  have hk0 : (0 : Int) ≤ (k : Int) := by omega
                  have hwl : ws.length ≤ 8 := by omega
                  unfold Owns at ho3
                  have hB4 := hB3.alloc hsz3 (.cells #[.string (body.extract 0 k)] 9)
                  clear e1 HR3
                  go_wp2_with (at_builtin; refine wpList_append_own _ rfl (.tmp 69) (.tmp 73) 23 rfl w.heap.size 9 i0 (.string ByteArray.empty) 1 16 Tryd.underlying23 hi hz0 hz1 hz2 rfl (by decide) _ _ _ rfl (World.ownsRow.alloc ho3 _) ⟨w3.heap.size, 0, none⟩ 1 1 [.string (body.extract 0 k)] rfl rfl (cell_str _ _ _) (by intro u hu; simp at hu; subst hu; rfl) (by unfold maxLen; omega) (by omega) (by simp; omega) ?_)
                  intro x2 w4 hown4 hgrow4 _
                  have ho4 : Owns w4 w.heap.size x2 (ws ++ [body.extract 0 k]) := by
                    unfold Owns; rw [List.length_append, List.map_append, hws]; exact hown4
                  have hB5 : Below w.heap.size w w4 := hB4.grown hgrow4 (by simp; omega) (fun i hi => (World.ownsRow.lt ho3 i hi).1)
                  clear hown4 hgrow4 ho3 hB4
                  go_wp2_with fail
                  go_roundw
                  case rel => exact ⟨j + 1, q + k + 2, ws ++ [body.extract 0 k], body.extract (k + 2) body.size, by omega, by go_num, by with_reducible rfl, by simp; omega, by simp; omega, by have := HF.out; rw [show n - (j + 1) = f from by omega]; exact HN, ho4, hB5⟩
                  case measure => simp [intOf]; omega
              · have hk2' : (body.size : Int) ≤ (k : Int) + 1 := by omega
                have E1 : Hid (ordR s.data.toList = ([], 0)) := by show _ = _; rw [HR3.out, if_neg (wb_no (fun _ => hq13) (fun h => absurd h hk2)), if_pos (by omega)]
                have hk4 : (body.size : Int) < (k : Int) + 2 := by omega
                go_wp2_with fail
                go_ret2
                exact ⟨_, by rw [E1.out]; rfl, by rw [E1.out]; exact owns_base (own_lit0 w3) hsz3, hB3.trans ((below_lit0 w3).mono hsz3)⟩
          · have hk1' : (body.size : Int) ≤ (k : Int) := by omega
            have E1 : Hid (ordR s.data.toList = ([], 0)) := by show _ = _; rw [HR3.out, if_neg (wb_no (fun h => absurd h hk1) (fun h => absurd h (by omega))), if_pos (by omega)]
            have hk4 : (body.size : Int) < (k : Int) + 2 := by omega
            have hk2' : (body.size : Int) ≤ (k : Int) + 1 := by omega
            go_wp2_with fail
            go_ret2
            exact ⟨_, by rw [E1.out]; rfl, by rw [E1.out]; exact owns_base (own_lit0 w3) hsz3, hB3.trans ((below_lit0 w3).mono hsz3)⟩
      · have e1 : n - j = 0 := by omega
        have HR2 := HR.out
        rw [e1] at HR2
        have HX : Hid (ordR s.data.toList = (ws, (p : Int))) := HR2
        clear HR HR2 e1
        have hfin : (s.size : Int) - (R.size : Int) = (p : Int) := by omega
        go_wp2_with fail
        go_ret2
        exact ⟨_, by rw [HX.out]; rfl, by rw [HX.out]; exact ho, hB⟩
end Go.Proofs.YtfoflnolmlgnfaaDoor
