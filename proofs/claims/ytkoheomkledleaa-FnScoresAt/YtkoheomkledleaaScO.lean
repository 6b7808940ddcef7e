/- ScoresAt: the program's and the model's. -/
import Derived.Test.YtkoheomkledleaaScF
import Derived.Test.YtkoheomkledleaaScCl
import Derived.Test.YtkoheomkledleaaPlcS
import Derived.Test.YtkoheomkledleaaAp
namespace Go.Proofs.Ytkoheomkledleaa
open Go.RowKit

def scAtB (l : List (ByteArray × Int)) (f t : Int) : Bool := scOkB l && (placeB f && placeB t)
def scAtP (l : List (ByteArray × Int)) (f t : Int) : List (ByteArray × Int) := (l.take (endE l.length f t)).drop (endA l.length f t)
def scAtR (l : List (ByteArray × Int)) (f t : Int) : List (ByteArray × Int) := if scAtB l f t = true then scAtP l f t else []
theorem scOk_16 {l : List (ByteArray × Int)} (h : scOkB l = true) : l.length ≤ 16 := by unfold scOkB at h; rw [Bool.and_eq_true] at h; simpa using h.1

set_option maxHeartbeats 8000000 in
set_option maxRecDepth 20000 in
theorem specScoresAt_any (v : Value) (l : List (ByteArray × Int)) (f t : Int) (w : World) (hr : ScReads w v l) (hlen : l.length ≤ 1048576) :
    Calls Try.prog 27 #[v, .int .i64 f, .int .i64 t] w fun e w' => ∃ x, e = .returned x ∧ ScOwns w' w.heap.size x (scAtR l f t) ∧ Below w.heap.size w w' := by
  obtain ⟨i0, hi0, hz0, hz1, hz2⟩ := info_parts scInfo
  obtain ⟨ao, cap, rfl⟩ := readsR_shape hr
  go_enter Try.func27, Try.ntmps27
  go_wp2_with fail
  refine (specScoresOk_any _ l _ hr hlen).mono ?_
  rintro e w1 ⟨rfl, hb1⟩
  have hr1 := readsR_kept hr hb1
  have hsz1 := hb1.size
  have ho1 : ScOwns (w1.alloc (.cells #[] 25)) w.heap.size (.slice (some ⟨w1.heap.size, 0, none⟩) 0 0) [] := World.ownsRow_lit w1 #[] 0 hsz1 (by simp) rfl
  have hB1 : Below w.heap.size w (w1.alloc (.cells #[] 25)) := hb1.alloc hsz1 _
  cases hok : scOkB l with
  | false =>
    have HF : Hid (scAtR l f t = []) := by show _ = _; unfold scAtR scAtB; rw [hok]; rfl
    clear hok
    go_wp2_with fail
    go_ret
    exact ⟨_, rfl, by rw [HF.out]; exact ho1, hB1⟩
  | true =>
    cases hf : placeB f with
    | false =>
      have HF : Hid (scAtR l f t = []) := by show _ = _; unfold scAtR scAtB; rw [hok, hf]; rfl
      clear hok
      go_wp2_with (go_at_call 59; refine (l2Place_any _ _).mono ?_; rintro e w' ⟨rfl, rfl⟩; rw [hf])
      go_ret
      exact ⟨_, rfl, by rw [HF.out]; exact ho1, hB1⟩
    | true =>
      cases ht : placeB t with
      | false =>
        have HF : Hid (scAtR l f t = []) := by show _ = _; unfold scAtR scAtB; rw [hok, hf, ht]; rfl
        clear hok
        go_wp2_with fail
        refine (l2Place_any f _).mono ?_
        rintro e w' ⟨rfl, rfl⟩
        rw [hf]
        go_wp2_with fail
        refine (l2Place_any t _).mono ?_
        rintro e w' ⟨rfl, rfl⟩
        rw [ht]
        go_wp2_with fail
        go_ret
        exact ⟨_, rfl, by rw [HF.out]; exact ho1, hB1⟩
      | true =>
        have HF : Hid (scAtR l f t = scAtP l f t) := by show _ = _; unfold scAtR scAtB; rw [hok, hf, ht]; rfl
        have hn := scOk_16 hok
        have bf := place_bd hf
        have bt := place_bd ht
        have hends := ends_le (n := l.length) f t
        clear hok
        go_wp2_with fail
        refine (l2Place_any f _).mono ?_
        rintro e w' ⟨rfl, rfl⟩
        rw [hf]
        go_wp2_with fail
        refine (l2Place_any t _).mono ?_
        rintro e w' ⟨rfl, rfl⟩
        rw [ht]
        go_wp2_with fail
        refine (l2Ends_any _ f t _ (by omega) (by omega) bf bt).mono ?_
        rintro e w' ⟨rfl, rfl⟩
        obtain ⟨A, hA⟩ : ∃ A, endA l.length f t = A := ⟨_, rfl⟩
        obtain ⟨E, hE⟩ : ∃ E, endE l.length f t = E := ⟨_, rfl⟩
        rw [hA, hE] at hends
        have HR : Hid (scAtP l f t = (l.take E).drop A) := by show _ = _; unfold scAtP; rw [hA, hE]
        rw [hA, hE]
        clear hA hE hf ht bf bt
        have hlR : ((l.take E).drop A).length = E - A := by simp; omega
        have HLR : Hid (((l.take E).drop A).length = E - A) := hlR
        have hlR2 : ((l.take E).drop A).length ≤ 16 := by omega
        clear hlR
        have hfin : ∀ ao n c, (ReadsR scC 2 w1 (.slice ao n c) ((l.take E).drop A)) → ReadsR scC 2 (w1.alloc (.cells #[] 25)) (.slice ao n c) ((l.take E).drop A) := fun ao n c h => readsR_kept h ((Below.refl _ _).alloc (Nat.le_refl _) _)
        have HFIN : Hid _ := hfin
        clear hfin
        have ho1 : (w1.alloc (.cells #[] 25)).ownsRow w.heap.size 25 2 (.slice (some ⟨w1.heap.size, 0, none⟩) 0 0) 0 [] := ho1
        rcases hr1 with ⟨rfl, ao', cap', hv, hcap⟩ | ⟨h0, b, off, cap', hv, hb, hnc, hcm, hc⟩
        · have e1 : E = 0 := by have := hends.2; simpa using this
          have e2 : A = 0 := by have := hends.1; omega
          subst e1; subst e2
          have hr2 : ReadsR scC 2 w1 (.slice ao 0 cap) ([] : List (ByteArray × Int)) := .inl ⟨rfl, ao, cap, rfl, by simp at hv; rw [hv.1, hv.2]; exact hcap⟩
          have hr3 := HFIN.out _ _ _ hr2
          clear HFIN hends hv hcap
          cases ao with
          | none =>
            go_wp2_with (at_builtin; refine append_R (c := scC) rfl (.tmp 31) (.tmp 35) 23 rfl w.heap.size 25 i0 _ 2 24 Try.underlying23 hi0 hz0 hz1 hz2 rfl (by decide) _ _ _ rfl ho1 _ rfl [] hr3 scC_len scC_one (by unfold maxLen; omega) (by simp) (by simp; omega) ?_)
            intro x5 w5 hown5 hgrow5
            have ho5 : ScOwns w5 w.heap.size x5 [] := by unfold ScOwns OwnsR; simpa using hown5
            have hB5 : Below w.heap.size w w5 := hB1.grown hgrow5 (by simp; omega) (fun j hj => (ho1.lt j hj).1)
            clear hown5 hgrow5
            go_wp2_with fail
            go_ret
            exact ⟨_, rfl, by rw [HF.out, HR.out]; exact ho5, hB5⟩
          | some ad =>
            go_wp2_with (at_builtin; refine append_R (c := scC) rfl (.tmp 31) (.tmp 35) 23 rfl w.heap.size 25 i0 _ 2 24 Try.underlying23 hi0 hz0 hz1 hz2 rfl (by decide) _ _ _ rfl ho1 _ rfl [] hr3 scC_len scC_one (by unfold maxLen; omega) (by simp) (by simp; omega) ?_)
            intro x5 w5 hown5 hgrow5
            have ho5 : ScOwns w5 w.heap.size x5 [] := by unfold ScOwns OwnsR; simpa using hown5
            have hB5 : Below w.heap.size w w5 := hB1.grown hgrow5 (by simp; omega) (fun j hj => (ho1.lt j hj).1)
            clear hown5 hgrow5
            go_wp2_with fail
            go_ret
            exact ⟨_, rfl, by rw [HF.out, HR.out]; exact ho5, hB5⟩
        · simp only [Value.slice.injEq, true_and] at hv
          obtain ⟨rfl, rfl⟩ := hv
          have hb1' : (0 : Int) ≤ (A : Int) := by omega
          have hb2 : (A : Int) ≤ (E : Int) := by omega
          have hb3 : (E : Int) ≤ (cap : Int) := by omega
          have hcut : ∀ ao n c, (¬ cap = A → ao = some ⟨b, off + A * 2, none⟩) → ao ≠ none → n = E - A → c = cap - A → ReadsR scC 2 w1 (.slice ao n c) ((l.take E).drop A) := fun ao n c h1 h2 h3 h4 =>
            readsR_cut hb hnc hcm hc h1 h2 hends.1 hends.2 h3 h4
          have HCUT : Hid _ := hcut
          unfold maxLen at hcm
          clear hcut hc
          generalize (l.take E).drop A = R at *
          rcases (show ¬ cap = A ∨ cap = A by omega) with hcA | hcA
          · go_wp2_with (at_builtin; refine append_R (c := scC) rfl (.tmp 31) (.tmp 35) 23 rfl w.heap.size 25 i0 _ 2 24 Try.underlying23 hi0 hz0 hz1 hz2 rfl (by decide) _ _ _ rfl ho1 _ rfl R (HFIN.out _ _ _ (HCUT.out _ _ _ (by intro h; first | rfl | exact absurd rfl h | omega) (by intro h; cases h) (by first | rfl | omega) (by first | rfl | omega))) scC_len scC_one (by unfold maxLen; omega) (by omega) (by simp; omega) ?_)
            intro x5 w5 hown5 hgrow5
            have ho5 : ScOwns w5 w.heap.size x5 R := by unfold ScOwns OwnsR; simpa using hown5
            have hB5 : Below w.heap.size w w5 := hB1.grown hgrow5 (by simp; omega) (fun j hj => (ho1.lt j hj).1)
            clear hown5 hgrow5
            go_wp2_with fail
            go_ret
            exact ⟨_, rfl, by rw [HF.out, HR.out]; exact ho5, hB5⟩
          · have hEA : E = A := by omega
            have hR0 : R = [] := List.length_eq_zero_iff.1 (by have := HLR.out; omega)
            subst hEA
            subst hcA
            subst hR0
            have hr2 : ReadsR scC 2 w1 (.slice (some ⟨b, off, none⟩) 0 0) ([] : List (ByteArray × Int)) := .inl ⟨rfl, _, _, rfl, by simp⟩
            have hr3 := HFIN.out _ _ _ hr2
            clear HFIN HCUT HLR
            go_wp2_with (at_builtin; refine append_R (c := scC) rfl (.tmp 31) (.tmp 35) 23 rfl w.heap.size 25 i0 _ 2 24 Try.underlying23 hi0 hz0 hz1 hz2 rfl (by decide) _ _ _ rfl ho1 _ rfl [] hr3 scC_len scC_one (by unfold maxLen; omega) (by simp) (by simp; omega) ?_)
            intro x5 w5 hown5 hgrow5
            have ho5 : ScOwns w5 w.heap.size x5 [] := by unfold ScOwns OwnsR; simpa using hown5
            have hB5 : Below w.heap.size w w5 := hB1.grown hgrow5 (by simp; omega) (fun j hj => (ho1.lt j hj).1)
            clear hown5 hgrow5
            go_wp2_with fail
            go_ret
            exact ⟨_, rfl, by rw [HF.out, HR.out]; exact ho5, hB5⟩

set_option maxHeartbeats 8000000 in
set_option maxRecDepth 20000 in
theorem implScoresAt_any (v : Value) (l : List (ByteArray × Int)) (f t : Int) (w : World) (hr : ScReads w v l) (hlen : l.length ≤ 1048576) :
    Calls Try.prog 22 #[v, .int .i64 f, .int .i64 t] w fun e w' => ∃ x, e = .returned x ∧ ScOwns w' w.heap.size x (scAtR l f t) ∧ Below w.heap.size w w' := by
  obtain ⟨ao, cap, rfl⟩ := readsR_shape hr
  go_enter Try.func22, Try.ntmps22
  go_wp2_with fail
  refine (implScoresOk_any _ l _ hr hlen).mono ?_
  rintro e w1 ⟨rfl, hb1⟩
  have hr1 := readsR_kept hr hb1
  have hsz1 := hb1.size
  cases hok : scOkB l with
  | false =>
    have HF : Hid (scAtR l f t = []) := by show _ = _; unfold scAtR scAtB; rw [hok]; rfl
    clear hok
    go_wp2_with fail
    go_ret
    exact ⟨_, rfl, by rw [HF.out]; exact World.ownsRow_nil _ _ _ _, hb1⟩
  | true =>
    cases hf : placeB f with
    | false =>
      have HF : Hid (scAtR l f t = []) := by show _ = _; unfold scAtR scAtB; rw [hok, hf]; rfl
      clear hok
      go_wp2_with fail
      refine (placeN_any f _).mono ?_
      rintro e w' ⟨rfl, rfl⟩
      rw [hf]
      go_wp2_with fail
      go_ret
      exact ⟨_, rfl, by rw [HF.out]; exact World.ownsRow_nil _ _ _ _, hb1⟩
    | true =>
      cases ht : placeB t with
      | false =>
        have HF : Hid (scAtR l f t = []) := by show _ = _; unfold scAtR scAtB; rw [hok, hf, ht]; rfl
        clear hok
        go_wp2_with fail
        refine (placeN_any f _).mono ?_
        rintro e w' ⟨rfl, rfl⟩
        rw [hf]
        go_wp2_with fail
        refine (placeN_any t _).mono ?_
        rintro e w' ⟨rfl, rfl⟩
        rw [ht]
        go_wp2_with fail
        go_ret
        exact ⟨_, rfl, by rw [HF.out]; exact World.ownsRow_nil _ _ _ _, hb1⟩
      | true =>
        have HF : Hid (scAtR l f t = scAtP l f t) := by show _ = _; unfold scAtR scAtB; rw [hok, hf, ht]; rfl
        have hn := scOk_16 hok
        have bf := place_bd hf
        have bt := place_bd ht
        have hends := ends_le (n := l.length) f t
        clear hok
        go_wp2_with fail
        refine (placeN_any f _).mono ?_
        rintro e w' ⟨rfl, rfl⟩
        rw [hf]
        go_wp2_with fail
        refine (placeN_any t _).mono ?_
        rintro e w' ⟨rfl, rfl⟩
        rw [ht]
        go_wp2_with fail
        refine (placesBetween_any _ f t _ (by omega) (by omega) bf bt).mono ?_
        rintro e w' ⟨rfl, rfl⟩
        obtain ⟨A, hA⟩ : ∃ A, endA l.length f t = A := ⟨_, rfl⟩
        obtain ⟨E, hE⟩ : ∃ E, endE l.length f t = E := ⟨_, rfl⟩
        rw [hA, hE] at hends
        have HR : Hid (scAtP l f t = (l.take E).drop A) := by show _ = _; unfold scAtP; rw [hA, hE]
        rw [hA, hE]
        clear hA hE hf ht bf bt
        have hlR2 : ((l.take E).drop A).length ≤ 1048576 := by simp; omega
        rcases hr1 with ⟨rfl, ao', cap', hv, hcap⟩ | ⟨h0, b, off, cap', hv, hb, hnc, hcm, hc⟩
        · have e1 : E = 0 := by have := hends.2; simpa using this
          have e2 : A = 0 := by have := hends.1; omega
          subst e1; subst e2
          have hr2 : ReadsR scC 2 w1 (.slice ao 0 cap) ([] : List (ByteArray × Int)) := .inl ⟨rfl, ao, cap, rfl, by simp at hv; rw [hv.1, hv.2]; exact hcap⟩
          clear hends hv hcap
          cases ao with
          | none =>
            go_wp2_with fail
            refine (scClone_any _ [] _ hr2 (by simp)).mono ?_
            rintro e w5 ⟨x5, rfl, ho5, hb5⟩
            have hB5 := hb1.trans (hb5.mono hsz1)
            have ho6 := ownsR_base ho5 hsz1
            clear hb5 ho5
            go_wp2_with fail
            go_ret
            exact ⟨_, rfl, by rw [HF.out, HR.out]; exact ho6, hB5⟩
          | some ad =>
            go_wp2_with fail
            refine (scClone_any _ [] _ hr2 (by simp)).mono ?_
            rintro e w5 ⟨x5, rfl, ho5, hb5⟩
            have hB5 := hb1.trans (hb5.mono hsz1)
            have ho6 := ownsR_base ho5 hsz1
            clear hb5 ho5
            go_wp2_with fail
            go_ret
            exact ⟨_, rfl, by rw [HF.out, HR.out]; exact ho6, hB5⟩
        · simp only [Value.slice.injEq, true_and] at hv
          obtain ⟨rfl, rfl⟩ := hv
          have hb1' : (0 : Int) ≤ (A : Int) := by omega
          have hb2 : (A : Int) ≤ (E : Int) := by omega
          have hb3 : (E : Int) ≤ (cap : Int) := by omega
          have hcut : ∀ ao n c, (¬ cap = A → ao = some ⟨b, off + A * 2, none⟩) → ao ≠ none → n = E - A → c = cap - A → ReadsR scC 2 w1 (.slice ao n c) ((l.take E).drop A) := fun ao n c h1 h2 h3 h4 =>
            readsR_cut hb hnc hcm hc h1 h2 hends.1 hends.2 h3 h4
          have HCUT : Hid _ := hcut
          unfold maxLen at hcm
          clear hcut hc
          go_wp2_with fail
          all_goals
            refine (scClone_any _ ((l.take E).drop A) _ (HCUT.out _ _ _ (by intro h; first | rfl | exact absurd rfl h | omega) (by intro h; cases h) (by first | rfl | omega) (by first | rfl | omega)) hlR2).mono ?_
            rintro e w5 ⟨x5, rfl, ho5, hb5⟩
            have hB5 := hb1.trans (hb5.mono hsz1)
            have ho6 := ownsR_base ho5 hsz1
            clear hb5 ho5
            go_wp2_with fail
            go_ret
            exact ⟨_, rfl, by rw [HF.out, HR.out]; exact ho6, hB5⟩
end Go.Proofs.Ytkoheomkledleaa
