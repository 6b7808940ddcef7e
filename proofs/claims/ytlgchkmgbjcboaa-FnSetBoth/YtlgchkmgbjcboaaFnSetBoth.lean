/- Proved: of every two drawn sets, what both have in common and what each has alone is what one of both has, each text in just one; in common either way round; as many together; the three answer as their models. No condition. -/
import Derived.Test.YtlgchkmgbjcboaaDrawS
import Derived.Test.YtlgchkmgbjcboaaQx
import Derived.Test.YtlgchkmgbjcboaaQxH
import Derived.Deep.QuietTactic
import Derived.ProofKit
import Derived.OpenShut
import Derived.ShutString
import Derived.ChangeOld
import Derived.Below
import Derived.Deep.RegionWith
namespace Go.Proofs.Ytlgchkmgbjcboaa.fnSetBoth
open Go.ChangeShapes Go.WideShapes Go.ChangeAt Go.RowKit
open Go.ChangeMaps (open_string shut_string)
set_option linter.unusedVariables false

theorem own : ownKnob Try.prog.godebug = none := by kernel_rfl
theorem laidOut : laidOutB Try.prog = true := by kernel_rfl

theorem at_mem {l : List ByteArray} {k : Nat} (h : k < l.length) : at_ l k ∈ l := by rw [at_lt h]; exact List.getElem_mem h
theorem bothR_len (a b : List ByteArray) (h : a.length ≤ 1048576) : (bothR a b).length ≤ 1048576 := by
  unfold bothR; split
  · have := bothM_len a b; omega
  · simp
theorem lessR_len (a b : List ByteArray) (h : a.length ≤ 1048576) : (lessR a b).length ≤ 1048576 := by
  unfold lessR; split
  · have := lessM_len a b; omega
  · simp
theorem hasF {l : List ByteArray} {s : ByteArray} : hasM l s = false ↔ s ∉ l := by
  rw [← hasM_iff]; cases hasM l s <;> simp
/-- of two sets: every text of one of both is in just one of the three -/
theorem three {a b : List ByteArray} {s : ByteArray} (h : s ∈ putsM a b) : (hasM (bothM a b) s = true ∧ hasM (lessM a b) s = false ∧ hasM (lessM b a) s = false) ∨ (hasM (bothM a b) s = false ∧ hasM (lessM a b) s = true ∧ hasM (lessM b a) s = false) ∨ (hasM (bothM a b) s = false ∧ hasM (lessM a b) s = false ∧ hasM (lessM b a) s = true) := by
  have m1 : s ∈ bothM a b ↔ s ∈ a ∧ s ∈ b := by unfold bothM; rw [List.mem_filter, hasM_iff]
  have m2 : ∀ x y : List ByteArray, s ∈ lessM x y ↔ s ∈ x ∧ s ∉ y := fun x y => by unfold lessM; rw [List.mem_filter, hasM_not]
  simp only [hasF, hasM_iff, m1, m2]
  rcases (putsM_mem s b a).1 h with ha | hb
  · by_cases hb : s ∈ b
    · exact .inl ⟨⟨ha, hb⟩, fun h => h.2 hb, fun h => h.2 ha⟩
    · exact .inr (.inl ⟨fun h => hb h.2, ⟨ha, hb⟩, fun h => hb h.1⟩)
  · by_cases ha : s ∈ a
    · exact .inl ⟨⟨ha, hb⟩, fun h => h.2 hb, fun h => h.2 ha⟩
    · exact .inr (.inr ⟨fun h => ha h.1, fun h => ha h.1, ⟨hb, ha⟩⟩)
theorem both_comm {a b : List ByteArray} (ha : Asc a) (hb : Asc b) : bothM b a = bothM a b := by
  refine asc_ext (filt_asc hb _) (filt_asc ha _) fun s => ?_
  unfold bothM; rw [List.mem_filter, List.mem_filter, hasM_iff, hasM_iff, and_comm]
theorem any_comm {a b : List ByteArray} (ha : Asc a) (hb : Asc b) : putsM b a = putsM a b := by
  refine asc_ext (putsM_asc a hb) (putsM_asc b ha) fun s => ?_
  rw [putsM_mem, putsM_mem, or_comm]
theorem asc_nodup {l : List ByteArray} (h : Asc l) : l.Nodup := h.imp fun hab => ltT_ne hab
theorem any_count {a b : List ByteArray} (ha : Asc a) (hb : Asc b) : (putsM a b).length = (bothM a b).length + (lessM a b).length + (lessM b a).length := by
  have hperm : (putsM a b).Perm ((bothM a b ++ lessM a b) ++ lessM b a) := by
    rw [List.perm_ext_iff_of_nodup (asc_nodup (putsM_asc b ha))]
    · intro s
      have m1 : s ∈ bothM a b ↔ s ∈ a ∧ s ∈ b := by unfold bothM; rw [List.mem_filter, hasM_iff]
      have m2 : ∀ x y : List ByteArray, s ∈ lessM x y ↔ s ∈ x ∧ s ∉ y := fun x y => by unfold lessM; rw [List.mem_filter, hasM_not]
      rw [putsM_mem, List.mem_append, List.mem_append, m1, m2, m2]
      by_cases h1 : s ∈ a <;> by_cases h2 : s ∈ b <;> simp [h1, h2]
    · rw [List.nodup_append, List.nodup_append]
      have m1 : ∀ s, s ∈ bothM a b ↔ s ∈ a ∧ s ∈ b := fun s => by unfold bothM; rw [List.mem_filter, hasM_iff]
      have m2 : ∀ (x y : List ByteArray) s, s ∈ lessM x y ↔ s ∈ x ∧ s ∉ y := fun x y s => by unfold lessM; rw [List.mem_filter, hasM_not]
      refine ⟨⟨asc_nodup (filt_asc ha _), asc_nodup (filt_asc ha _), fun s hs t ht e => ?_⟩, asc_nodup (filt_asc hb _), fun s hs t ht e => ?_⟩
      · subst e; exact ((m2 a b s).1 ht).2 ((m1 s).1 hs).2
      · subst e
        have := (m2 b a s).1 ht
        rcases List.mem_append.1 hs with h | h
        · exact this.2 ((m1 s).1 h).1
        · exact this.2 ((m2 a b s).1 h).1
  have := hperm.length_eq
  rw [this]; simp; omega
set_option maxRecDepth 20000 in
set_option maxHeartbeats 8000000 in
theorem walk (v : Value) (zs : List Int) (w : World) (h : IsBytes w v zs) :
    Calls Try.prog 5 #[v] w fun e w' => e = .returned (.bool true) ∧ Below w.heap.size w w' := by
  have hI := h
  obtain ⟨ao, cap, rfl, hlc, hcm, hzb, hz⟩ := h
  unfold maxLen at hcm
  clear hz hzb
  rcases Int.lt_or_le (1048576 : Int) (zs.length : Int) with hx | hx
  · go_enter Try.func5, Try.ntmps5
    go_wp2_with fail
    go_ret
    exact ⟨rfl, Below.refl _ _⟩
  · go_enter Try.func5, Try.ntmps5
    go_wp2_with fail
    refine (drawSBoth_any _ zs _ hI).mono ?_
    rintro e w1 ⟨u, a, t, b, rfl, hra1, hrb1, hl, hlt, HB1⟩
    clear hI
    obtain ⟨au, cu, rfl⟩ := reads_shape hra1
    obtain ⟨at1, ct, rfl⟩ := reads_shape hrb1
    go_wp2_with fail
    refine (implBoth_any _ _ a b _ hra1 hrb1 (by omega) (by omega)).mono ?_
    rintro e w2 ⟨xrB, rfl, orB, hb⟩
    have HB2 := below_stepT HB1 hb
    have hra2 := reads_kept hra1 hb
    have hrb2 := reads_kept hrb1 hb
    clear hb HB1 hra1 hrb1
    have rB2 := owns_reads orB
    clear orB
    go_wp2_with fail
    refine (implAny_any _ _ a b _ hra2 hrb2 (by omega) (by omega)).mono ?_
    rintro e w3 ⟨xrE, rfl, orE, hb⟩
    have HB3 := below_stepT HB2 hb
    have hra3 := reads_kept hra2 hb
    have hrb3 := reads_kept hrb2 hb
    have rB3 := reads_kept rB2 hb
    clear hb HB2 hra2 hrb2 rB2
    have rE3 := owns_reads orE
    clear orE
    go_wp2_with fail
    refine (implLess_any _ _ a b _ hra3 hrb3 (by omega) (by omega)).mono ?_
    rintro e w4 ⟨xrO, rfl, orO, hb⟩
    have HB4 := below_stepT HB3 hb
    have hra4 := reads_kept hra3 hb
    have hrb4 := reads_kept hrb3 hb
    have rB4 := reads_kept rB3 hb
    have rE4 := reads_kept rE3 hb
    clear hb HB3 hra3 hrb3 rB3 rE3
    have rO4 := owns_reads orO
    clear orO
    go_wp2_with fail
    refine (implLess_any _ _ b a _ hrb4 hra4 (by omega) (by omega)).mono ?_
    rintro e w5 ⟨xrT, rfl, orT, hb⟩
    have HB5 := below_stepT HB4 hb
    have hra5 := reads_kept hra4 hb
    have hrb5 := reads_kept hrb4 hb
    have rB5 := reads_kept rB4 hb
    have rE5 := reads_kept rE4 hb
    have rO5 := reads_kept rO4 hb
    clear hb HB4 hra4 hrb4 rB4 rE4 rO4
    have rT5 := owns_reads orT
    clear orT
    go_wp2_with fail
    have hLB := bothR_len a b (by omega)
    have hLE := (by have := anyR_len a b; omega : (anyR a b).length ≤ 1048576)
    have hLO := lessR_len a b (by omega)
    have hLT := lessR_len b a (by omega)
    refine (specBoth_any _ _ a b _ hra5 hrb5 (by omega) (by omega)).mono ?_
    rintro e w6 ⟨xrS, rfl, orS, hb⟩
    have HB6 := below_stepT HB5 hb
    have hra6 := reads_kept hra5 hb
    have hrb6 := reads_kept hrb5 hb
    have rB6 := reads_kept rB5 hb
    have rE6 := reads_kept rE5 hb
    have rO6 := reads_kept rO5 hb
    have rT6 := reads_kept rT5 hb
    clear hb HB5 hra5 hrb5 rB5 rE5 rO5 rT5
    have rS6 := owns_reads orS
    clear orS
    go_wp2_with fail
    refine (qx_true _ _ (bothR a b) _ rB6 rS6 hLB).mono ?_
    rintro e w7 ⟨rfl, hb⟩
    have HB7 := below_stepT HB6 hb
    have hra7 := reads_kept hra6 hb
    have hrb7 := reads_kept hrb6 hb
    have rB7 := reads_kept rB6 hb
    have rE7 := reads_kept rE6 hb
    have rO7 := reads_kept rO6 hb
    have rT7 := reads_kept rT6 hb
    have rS7 := reads_kept rS6 hb
    clear hb HB6 hra6 hrb6 rB6 rE6 rO6 rT6 rS6
    go_wp2_with fail
    clear rS7
    refine (specAny_any _ _ a b _ hra7 hrb7 (by omega) (by omega)).mono ?_
    rintro e w8 ⟨xrS, rfl, orS, hb⟩
    have HB8 := below_stepT HB7 hb
    have hra8 := reads_kept hra7 hb
    have hrb8 := reads_kept hrb7 hb
    have rB8 := reads_kept rB7 hb
    have rE8 := reads_kept rE7 hb
    have rO8 := reads_kept rO7 hb
    have rT8 := reads_kept rT7 hb
    clear hb HB7 hra7 hrb7 rB7 rE7 rO7 rT7
    have rS8 := owns_reads orS
    clear orS
    go_wp2_with fail
    refine (qx_true _ _ (anyR a b) _ rE8 rS8 hLE).mono ?_
    rintro e w9 ⟨rfl, hb⟩
    have HB9 := below_stepT HB8 hb
    have hra9 := reads_kept hra8 hb
    have hrb9 := reads_kept hrb8 hb
    have rB9 := reads_kept rB8 hb
    have rE9 := reads_kept rE8 hb
    have rO9 := reads_kept rO8 hb
    have rT9 := reads_kept rT8 hb
    have rS9 := reads_kept rS8 hb
    clear hb HB8 hra8 hrb8 rB8 rE8 rO8 rT8 rS8
    go_wp2_with fail
    clear rS9
    refine (specLess_any _ _ a b _ hra9 hrb9 (by omega) (by omega)).mono ?_
    rintro e w10 ⟨xrS, rfl, orS, hb⟩
    have HB10 := below_stepT HB9 hb
    have hra10 := reads_kept hra9 hb
    have hrb10 := reads_kept hrb9 hb
    have rB10 := reads_kept rB9 hb
    have rE10 := reads_kept rE9 hb
    have rO10 := reads_kept rO9 hb
    have rT10 := reads_kept rT9 hb
    clear hb HB9 hra9 hrb9 rB9 rE9 rO9 rT9
    have rS10 := owns_reads orS
    clear orS
    go_wp2_with fail
    refine (qx_true _ _ (lessR a b) _ rO10 rS10 hLO).mono ?_
    rintro e w11 ⟨rfl, hb⟩
    have HB11 := below_stepT HB10 hb
    have hra11 := reads_kept hra10 hb
    have hrb11 := reads_kept hrb10 hb
    have rB11 := reads_kept rB10 hb
    have rE11 := reads_kept rE10 hb
    have rO11 := reads_kept rO10 hb
    have rT11 := reads_kept rT10 hb
    have rS11 := reads_kept rS10 hb
    clear hb HB10 hra10 hrb10 rB10 rE10 rO10 rT10 rS10
    go_wp2_with fail
    clear rS11
    cases hsa : setB a with
    | false =>
      refine (specSetOk_any _ a _ hra11 (by omega)).mono ?_
      rw [hsa]
      rintro e w12 ⟨rfl, hb⟩
      have HB12 := below_stepT HB11 hb
      have hra12 := reads_kept hra11 hb
      have hrb12 := reads_kept hrb11 hb
      have rB12 := reads_kept rB11 hb
      have rE12 := reads_kept rE11 hb
      have rO12 := reads_kept rO11 hb
      have rT12 := reads_kept rT11 hb
      clear hb HB11 hra11 hrb11 rB11 rE11 rO11 rT11
      go_wp2_with fail
      refine (specBoth_any _ _ a b _ hra12 hrb12 (by omega) (by omega)).mono ?_
      rintro e w13 ⟨xrS, rfl, orS, hb⟩
      have HB13 := below_stepT HB12 hb
      have hra13 := reads_kept hra12 hb
      have hrb13 := reads_kept hrb12 hb
      have rB13 := reads_kept rB12 hb
      have rE13 := reads_kept rE12 hb
      have rO13 := reads_kept rO12 hb
      have rT13 := reads_kept rT12 hb
      clear hb HB12 hra12 hrb12 rB12 rE12 rO12 rT12
      have rS13 := owns_reads orS
      clear orS
      go_wp2_with fail
      refine (qx_true _ _ (bothR a b) _ rB13 rS13 hLB).mono ?_
      rintro e w14 ⟨rfl, hb⟩
      have HB14 := below_stepT HB13 hb
      have hra14 := reads_kept hra13 hb
      have hrb14 := reads_kept hrb13 hb
      have rB14 := reads_kept rB13 hb
      have rE14 := reads_kept rE13 hb
      have rO14 := reads_kept rO13 hb
      have rT14 := reads_kept rT13 hb
      have rS14 := reads_kept rS13 hb
      clear hb HB13 hra13 hrb13 rB13 rE13 rO13 rT13 rS13
      go_wp2_with fail
      clear rS14
      refine (specAny_any _ _ a b _ hra14 hrb14 (by omega) (by omega)).mono ?_
      rintro e w15 ⟨xrS, rfl, orS, hb⟩
      have HB15 := below_stepT HB14 hb
      have hra15 := reads_kept hra14 hb
      have hrb15 := reads_kept hrb14 hb
      have rB15 := reads_kept rB14 hb
      have rE15 := reads_kept rE14 hb
      have rO15 := reads_kept rO14 hb
      have rT15 := reads_kept rT14 hb
      clear hb HB14 hra14 hrb14 rB14 rE14 rO14 rT14
      have rS15 := owns_reads orS
      clear orS
      go_wp2_with fail
      refine (qx_true _ _ (anyR a b) _ rE15 rS15 hLE).mono ?_
      rintro e w16 ⟨rfl, hb⟩
      have HB16 := below_stepT HB15 hb
      have hra16 := reads_kept hra15 hb
      have hrb16 := reads_kept hrb15 hb
      have rB16 := reads_kept rB15 hb
      have rE16 := reads_kept rE15 hb
      have rO16 := reads_kept rO15 hb
      have rT16 := reads_kept rT15 hb
      have rS16 := reads_kept rS15 hb
      clear hb HB15 hra15 hrb15 rB15 rE15 rO15 rT15 rS15
      go_wp2_with fail
      clear rS16
      refine (specLess_any _ _ a b _ hra16 hrb16 (by omega) (by omega)).mono ?_
      rintro e w17 ⟨xrS, rfl, orS, hb⟩
      have HB17 := below_stepT HB16 hb
      have hra17 := reads_kept hra16 hb
      have hrb17 := reads_kept hrb16 hb
      have rB17 := reads_kept rB16 hb
      have rE17 := reads_kept rE16 hb
      have rO17 := reads_kept rO16 hb
      have rT17 := reads_kept rT16 hb
      clear hb HB16 hra16 hrb16 rB16 rE16 rO16 rT16
      have rS17 := owns_reads orS
      clear orS
      go_wp2_with fail
      refine (qx_true _ _ (lessR a b) _ rO17 rS17 hLO).mono ?_
      rintro e w18 ⟨rfl, hb⟩
      have HB18 := below_stepT HB17 hb
      have hra18 := reads_kept hra17 hb
      have hrb18 := reads_kept hrb17 hb
      have rB18 := reads_kept rB17 hb
      have rE18 := reads_kept rE17 hb
      have rO18 := reads_kept rO17 hb
      have rT18 := reads_kept rT17 hb
      have rS18 := reads_kept rS17 hb
      clear hb HB17 hra17 hrb17 rB17 rE17 rO17 rT17 rS17
      go_wp2_with fail
      clear rS18
      go_ret
      exact ⟨rfl, HB18⟩
    | true =>
      refine (specSetOk_any _ a _ hra11 (by omega)).mono ?_
      rw [hsa]
      rintro e w12 ⟨rfl, hb⟩
      have HB12 := below_stepT HB11 hb
      have hra12 := reads_kept hra11 hb
      have hrb12 := reads_kept hrb11 hb
      have rB12 := reads_kept rB11 hb
      have rE12 := reads_kept rE11 hb
      have rO12 := reads_kept rO11 hb
      have rT12 := reads_kept rT11 hb
      clear hb HB11 hra11 hrb11 rB11 rE11 rO11 rT11
      go_wp2_with fail
      cases hsb : setB b with
      | false =>
        refine (specSetOk_any _ b _ hrb12 (by omega)).mono ?_
        rw [hsb]
        rintro e w13 ⟨rfl, hb⟩
        have HB13 := below_stepT HB12 hb
        have hra13 := reads_kept hra12 hb
        have hrb13 := reads_kept hrb12 hb
        have rB13 := reads_kept rB12 hb
        have rE13 := reads_kept rE12 hb
        have rO13 := reads_kept rO12 hb
        have rT13 := reads_kept rT12 hb
        clear hb HB12 hra12 hrb12 rB12 rE12 rO12 rT12
        go_wp2_with fail
        refine (specBoth_any _ _ a b _ hra13 hrb13 (by omega) (by omega)).mono ?_
        rintro e w14 ⟨xrS, rfl, orS, hb⟩
        have HB14 := below_stepT HB13 hb
        have hra14 := reads_kept hra13 hb
        have hrb14 := reads_kept hrb13 hb
        have rB14 := reads_kept rB13 hb
        have rE14 := reads_kept rE13 hb
        have rO14 := reads_kept rO13 hb
        have rT14 := reads_kept rT13 hb
        clear hb HB13 hra13 hrb13 rB13 rE13 rO13 rT13
        have rS14 := owns_reads orS
        clear orS
        go_wp2_with fail
        refine (qx_true _ _ (bothR a b) _ rB14 rS14 hLB).mono ?_
        rintro e w15 ⟨rfl, hb⟩
        have HB15 := below_stepT HB14 hb
        have hra15 := reads_kept hra14 hb
        have hrb15 := reads_kept hrb14 hb
        have rB15 := reads_kept rB14 hb
        have rE15 := reads_kept rE14 hb
        have rO15 := reads_kept rO14 hb
        have rT15 := reads_kept rT14 hb
        have rS15 := reads_kept rS14 hb
        clear hb HB14 hra14 hrb14 rB14 rE14 rO14 rT14 rS14
        go_wp2_with fail
        clear rS15
        refine (specAny_any _ _ a b _ hra15 hrb15 (by omega) (by omega)).mono ?_
        rintro e w16 ⟨xrS, rfl, orS, hb⟩
        have HB16 := below_stepT HB15 hb
        have hra16 := reads_kept hra15 hb
        have hrb16 := reads_kept hrb15 hb
        have rB16 := reads_kept rB15 hb
        have rE16 := reads_kept rE15 hb
        have rO16 := reads_kept rO15 hb
        have rT16 := reads_kept rT15 hb
        clear hb HB15 hra15 hrb15 rB15 rE15 rO15 rT15
        have rS16 := owns_reads orS
        clear orS
        go_wp2_with fail
        refine (qx_true _ _ (anyR a b) _ rE16 rS16 hLE).mono ?_
        rintro e w17 ⟨rfl, hb⟩
        have HB17 := below_stepT HB16 hb
        have hra17 := reads_kept hra16 hb
        have hrb17 := reads_kept hrb16 hb
        have rB17 := reads_kept rB16 hb
        have rE17 := reads_kept rE16 hb
        have rO17 := reads_kept rO16 hb
        have rT17 := reads_kept rT16 hb
        have rS17 := reads_kept rS16 hb
        clear hb HB16 hra16 hrb16 rB16 rE16 rO16 rT16 rS16
        go_wp2_with fail
        clear rS17
        refine (specLess_any _ _ a b _ hra17 hrb17 (by omega) (by omega)).mono ?_
        rintro e w18 ⟨xrS, rfl, orS, hb⟩
        have HB18 := below_stepT HB17 hb
        have hra18 := reads_kept hra17 hb
        have hrb18 := reads_kept hrb17 hb
        have rB18 := reads_kept rB17 hb
        have rE18 := reads_kept rE17 hb
        have rO18 := reads_kept rO17 hb
        have rT18 := reads_kept rT17 hb
        clear hb HB17 hra17 hrb17 rB17 rE17 rO17 rT17
        have rS18 := owns_reads orS
        clear orS
        go_wp2_with fail
        refine (qx_true _ _ (lessR a b) _ rO18 rS18 hLO).mono ?_
        rintro e w19 ⟨rfl, hb⟩
        have HB19 := below_stepT HB18 hb
        have hra19 := reads_kept hra18 hb
        have hrb19 := reads_kept hrb18 hb
        have rB19 := reads_kept rB18 hb
        have rE19 := reads_kept rE18 hb
        have rO19 := reads_kept rO18 hb
        have rT19 := reads_kept rT18 hb
        have rS19 := reads_kept rS18 hb
        clear hb HB18 hra18 hrb18 rB18 rE18 rO18 rT18 rS18
        go_wp2_with fail
        clear rS19
        go_ret
        exact ⟨rfl, HB19⟩
      | true =>
        refine (specSetOk_any _ b _ hrb12 (by omega)).mono ?_
        rw [hsb]
        rintro e w13 ⟨rfl, hb⟩
        have HB13 := below_stepT HB12 hb
        have hra13 := reads_kept hra12 hb
        have hrb13 := reads_kept hrb12 hb
        have rB13 := reads_kept rB12 hb
        have rE13 := reads_kept rE12 hb
        have rO13 := reads_kept rO12 hb
        have rT13 := reads_kept rT12 hb
        clear hb HB12 hra12 hrb12 rB12 rE12 rO12 rT12
        go_wp2_with fail
        have HA := setB_asc hsa
        have HBa := setB_asc hsb
        have eB : bothR a b = bothM a b := by unfold bothR; rw [hsa, hsb]; rfl
        have eE : anyR a b = putsM a b := by unfold anyR; rw [hsa, hsb]; rfl
        have eO : lessR a b = lessM a b := by unfold lessR; rw [hsa, hsb]; rfl
        have eT : lessR b a = lessM b a := by unfold lessR; rw [hsa, hsb]; rfl
        have HB2 : Hid (bothR b a = bothR a b) := by show _ = _; rw [eB]; unfold bothR; rw [hsa, hsb]; exact both_comm HA HBa
        have HE2 : Hid (anyR b a = anyR a b) := by show _ = _; rw [eE]; unfold anyR; rw [hsa, hsb]; exact any_comm HA HBa
        have H3 : Hid (∀ k, k < (anyR a b).length → (hasM (bothR a b) (at_ (anyR a b) k) = true ∧ hasM (lessR a b) (at_ (anyR a b) k) = false ∧ hasM (lessR b a) (at_ (anyR a b) k) = false) ∨ (hasM (bothR a b) (at_ (anyR a b) k) = false ∧ hasM (lessR a b) (at_ (anyR a b) k) = true ∧ hasM (lessR b a) (at_ (anyR a b) k) = false) ∨ (hasM (bothR a b) (at_ (anyR a b) k) = false ∧ hasM (lessR a b) (at_ (anyR a b) k) = false ∧ hasM (lessR b a) (at_ (anyR a b) k) = true)) := fun k hk => by
          have hm := at_mem hk
          rw [eE] at hm
          have := three hm
          rw [eB, eO, eT, eE]; exact this
        have HASC : Hid (∀ j, j + 1 < (anyR a b).length → Op.bytesLess (at_ (anyR a b) j).toList (at_ (anyR a b) (j + 1)).toList = true) := fun j hj => by
          have h1 : Asc (anyR a b) := by rw [eE]; exact putsM_asc b HA
          have := (List.pairwise_iff_getElem.1 h1) j (j + 1) (by omega) hj (by omega)
          rw [at_lt hj, at_lt (show j < (anyR a b).length by omega)]; exact this
        have hcnt : (((anyR a b).length : Int) == ((bothR a b).length : Int) + ((lessR a b).length : Int) + ((lessR b a).length : Int)) = true := by
          have := any_count HA HBa
          rw [eB, eE, eO, eT, beq_iff_eq]; omega
        clear eB eE eO eT HA HBa hsa hsb
        have hLE32 := anyR_len a b
        generalize bothR a b = RB at *
        generalize anyR a b = RE at *
        generalize lessR a b = RO at *
        generalize lessR b a = RT at *
        obtain ⟨aE, cE, hxE⟩ := reads_shape rE13
        subst hxE
        obtain ⟨aB, cB, hxB⟩ := reads_shape rB13
        subst hxB
        obtain ⟨aO, cO, hxO⟩ := reads_shape rO13
        subst hxO
        obtain ⟨aT, cT, hxT⟩ := reads_shape rT13
        subst hxT
        go_loopw [9] (fun i wr => ∃ k : Nat, k ≤ RE.length ∧ i = .int .i64 (k : Int) ∧ Below w13.heap.size w13 wr) (fun i _ => RE.length - (intOf i).toNat)
        case atStart => exact ⟨0, Nat.zero_le _, rfl, Below.refl _ _⟩
        case round =>
          obtain ⟨k, hk, rfl, hB⟩ := hrel
          have kE := reads_kept rE13 hB
          have kB := reads_kept rB13 hB
          have kO := reads_kept rO13 hB
          have kT := reads_kept rT13 hB
          by_cases hlk : k < RE.length
          · have hi1 : (k : Int) < (RE.length : Int) := by omega
            obtain ⟨bl, off, hbo, hbl, hc⟩ := reads_someS kE (by omega)
            subst hbo
            have hcell := hc k hlk
            rcases H3.out k hlk with ⟨h1, h2, h3⟩ | ⟨h1, h2, h3⟩ | ⟨h1, h2, h3⟩
            · rcases (show k = 0 ∨ ∃ j, k = j + 1 by rcases k with _ | j; exact .inl rfl; exact .inr ⟨j, rfl⟩) with hk0 | ⟨j, rfl⟩
              · have hi0 : ¬ (0 : Int) < (k : Int) := by omega
                have hi0b : decide ((0 : Int) < (k : Int)) = false := by simp; omega
                have hi0n : ¬ 0 < k := by omega
                have hi0c : decide (0 < k) = false := by simp; omega
                clear hc hk0
                go_wp2_with fail
                refine (qxHas_any _ RB _ _ kB (by omega)).mono ?_
                rw [h1]
                rintro e w7 ⟨rfl, rfl⟩
                go_wp2_with fail
                refine (qxHas_any _ RO _ _ kO (by omega)).mono ?_
                rw [h2]
                rintro e w7 ⟨rfl, rfl⟩
                go_wp2_with fail
                refine (qxHas_any _ RT _ _ kT (by omega)).mono ?_
                rw [h3]
                rintro e w7 ⟨rfl, rfl⟩
                go_wp2_with fail
                go_quiet (fail)
                generalize hwq : World.drewN _ _ = w6
                have hB6 : Below w13.heap.size w13 w6 := by rw [← hwq]; exact ⟨hB.os, hB.tape, hB.output, hB.size, hB.block⟩
                clear hwq
                go_wp2_with fail
                go_roundw
                case rel => exact ⟨k + 1, hlk, by go_num, hB6⟩
                case measure => simp [intOf]; omega
              · have hcell2 := hc j (by omega)
                have hlt' : (j : Int) + 1 < (RE.length : Int) := by omega
                have hlt2 : (j : Int) < (RE.length : Int) := by omega
                have hless := HASC.out j hlk
                clear hc
                go_wp2_with fail
                refine (qxHas_any _ RB _ _ kB (by omega)).mono ?_
                rw [h1]
                rintro e w7 ⟨rfl, rfl⟩
                go_wp2_with fail
                refine (qxHas_any _ RO _ _ kO (by omega)).mono ?_
                rw [h2]
                rintro e w7 ⟨rfl, rfl⟩
                go_wp2_with fail
                refine (qxHas_any _ RT _ _ kT (by omega)).mono ?_
                rw [h3]
                rintro e w7 ⟨rfl, rfl⟩
                go_wp2_with fail
                go_quiet (fail)
                generalize hwq : World.drewN _ _ = w6
                have hB6 : Below w13.heap.size w13 w6 := by rw [← hwq]; exact ⟨hB.os, hB.tape, hB.output, hB.size, hB.block⟩
                clear hwq
                go_wp2_with fail
                go_roundw
                case rel => exact ⟨j + 1 + 1, hlk, by go_num, hB6⟩
                case measure => simp [intOf]; omega
            · rcases (show k = 0 ∨ ∃ j, k = j + 1 by rcases k with _ | j; exact .inl rfl; exact .inr ⟨j, rfl⟩) with hk0 | ⟨j, rfl⟩
              · have hi0 : ¬ (0 : Int) < (k : Int) := by omega
                have hi0b : decide ((0 : Int) < (k : Int)) = false := by simp; omega
                have hi0n : ¬ 0 < k := by omega
                have hi0c : decide (0 < k) = false := by simp; omega
                clear hc hk0
                go_wp2_with fail
                refine (qxHas_any _ RB _ _ kB (by omega)).mono ?_
                rw [h1]
                rintro e w7 ⟨rfl, rfl⟩
                go_wp2_with fail
                refine (qxHas_any _ RO _ _ kO (by omega)).mono ?_
                rw [h2]
                rintro e w7 ⟨rfl, rfl⟩
                go_wp2_with fail
                refine (qxHas_any _ RT _ _ kT (by omega)).mono ?_
                rw [h3]
                rintro e w7 ⟨rfl, rfl⟩
                go_wp2_with fail
                go_quiet (fail)
                generalize hwq : World.drewN _ _ = w6
                have hB6 : Below w13.heap.size w13 w6 := by rw [← hwq]; exact ⟨hB.os, hB.tape, hB.output, hB.size, hB.block⟩
                clear hwq
                go_wp2_with fail
                go_roundw
                case rel => exact ⟨k + 1, hlk, by go_num, hB6⟩
                case measure => simp [intOf]; omega
              · have hcell2 := hc j (by omega)
                have hlt' : (j : Int) + 1 < (RE.length : Int) := by omega
                have hlt2 : (j : Int) < (RE.length : Int) := by omega
                have hless := HASC.out j hlk
                clear hc
                go_wp2_with fail
                refine (qxHas_any _ RB _ _ kB (by omega)).mono ?_
                rw [h1]
                rintro e w7 ⟨rfl, rfl⟩
                go_wp2_with fail
                refine (qxHas_any _ RO _ _ kO (by omega)).mono ?_
                rw [h2]
                rintro e w7 ⟨rfl, rfl⟩
                go_wp2_with fail
                refine (qxHas_any _ RT _ _ kT (by omega)).mono ?_
                rw [h3]
                rintro e w7 ⟨rfl, rfl⟩
                go_wp2_with fail
                go_quiet (fail)
                generalize hwq : World.drewN _ _ = w6
                have hB6 : Below w13.heap.size w13 w6 := by rw [← hwq]; exact ⟨hB.os, hB.tape, hB.output, hB.size, hB.block⟩
                clear hwq
                go_wp2_with fail
                go_roundw
                case rel => exact ⟨j + 1 + 1, hlk, by go_num, hB6⟩
                case measure => simp [intOf]; omega
            · rcases (show k = 0 ∨ ∃ j, k = j + 1 by rcases k with _ | j; exact .inl rfl; exact .inr ⟨j, rfl⟩) with hk0 | ⟨j, rfl⟩
              · have hi0 : ¬ (0 : Int) < (k : Int) := by omega
                have hi0b : decide ((0 : Int) < (k : Int)) = false := by simp; omega
                have hi0n : ¬ 0 < k := by omega
                have hi0c : decide (0 < k) = false := by simp; omega
                clear hc hk0
                go_wp2_with fail
                refine (qxHas_any _ RB _ _ kB (by omega)).mono ?_
                rw [h1]
                rintro e w7 ⟨rfl, rfl⟩
                go_wp2_with fail
                refine (qxHas_any _ RO _ _ kO (by omega)).mono ?_
                rw [h2]
                rintro e w7 ⟨rfl, rfl⟩
                go_wp2_with fail
                refine (qxHas_any _ RT _ _ kT (by omega)).mono ?_
                rw [h3]
                rintro e w7 ⟨rfl, rfl⟩
                go_wp2_with fail
                go_quiet (fail)
                generalize hwq : World.drewN _ _ = w6
                have hB6 : Below w13.heap.size w13 w6 := by rw [← hwq]; exact ⟨hB.os, hB.tape, hB.output, hB.size, hB.block⟩
                clear hwq
                go_wp2_with fail
                go_roundw
                case rel => exact ⟨k + 1, hlk, by go_num, hB6⟩
                case measure => simp [intOf]; omega
              · have hcell2 := hc j (by omega)
                have hlt' : (j : Int) + 1 < (RE.length : Int) := by omega
                have hlt2 : (j : Int) < (RE.length : Int) := by omega
                have hless := HASC.out j hlk
                clear hc
                go_wp2_with fail
                refine (qxHas_any _ RB _ _ kB (by omega)).mono ?_
                rw [h1]
                rintro e w7 ⟨rfl, rfl⟩
                go_wp2_with fail
                refine (qxHas_any _ RO _ _ kO (by omega)).mono ?_
                rw [h2]
                rintro e w7 ⟨rfl, rfl⟩
                go_wp2_with fail
                refine (qxHas_any _ RT _ _ kT (by omega)).mono ?_
                rw [h3]
                rintro e w7 ⟨rfl, rfl⟩
                go_wp2_with fail
                go_quiet (fail)
                generalize hwq : World.drewN _ _ = w6
                have hB6 : Below w13.heap.size w13 w6 := by rw [← hwq]; exact ⟨hB.os, hB.tape, hB.output, hB.size, hB.block⟩
                clear hwq
                go_wp2_with fail
                go_roundw
                case rel => exact ⟨j + 1 + 1, hlk, by go_num, hB6⟩
                case measure => simp [intOf]; omega
          · have hi1 : ¬ (k : Int) < (RE.length : Int) := by omega
            have ka := reads_kept hra13 hB
            have kb := reads_kept hrb13 hB
            have HBx1 := below_stepT HB13 hB
            go_wp2_with fail
            refine (implBoth_any _ _ b a _ kb ka (by omega) (by omega)).mono ?_
            rw [HB2.out]
            rintro e wx ⟨x8, rfl, o8, hb⟩
            have HBx2 := below_stepT HBx1 hb
            have ka' := reads_kept ka hb
            clear ka
            have ka := ka'
            clear ka'
            have kb' := reads_kept kb hb
            clear kb
            have kb := kb'
            clear kb'
            have kB' := reads_kept kB hb
            clear kB
            have kB := kB'
            clear kB'
            have kE' := reads_kept kE hb
            clear kE
            have kE := kE'
            clear kE'
            clear hb
            have r8 := owns_reads o8
            clear o8
            go_wp2_with fail
            refine (qx_true _ _ RB _ r8 kB hLB).mono ?_
            rintro e wy ⟨rfl, hb⟩
            have HBx3 := below_stepT HBx2 hb
            have ka' := reads_kept ka hb
            clear ka
            have ka := ka'
            clear ka'
            have kb' := reads_kept kb hb
            clear kb
            have kb := kb'
            clear kb'
            have kE' := reads_kept kE hb
            clear kE
            have kE := kE'
            clear kE'
            clear hb
            go_wp2_with fail
            refine (implAny_any _ _ b a _ kb ka (by omega) (by omega)).mono ?_
            rw [HE2.out]
            rintro e wz ⟨x9, rfl, o9, hb⟩
            have HBx4 := below_stepT HBx3 hb
            have kE' := reads_kept kE hb
            clear kE
            have kE := kE'
            clear kE'
            clear hb
            have r9 := owns_reads o9
            clear o9
            go_wp2_with fail
            refine (qx_true _ _ RE _ r9 kE hLE).mono ?_
            rintro e wu ⟨rfl, hb⟩
            have HBx5 := below_stepT HBx4 hb
            clear hb
            go_wp2_with fail
            go_ret
            exact ⟨rfl, HBx5⟩

set_option maxRecDepth 100000 in
theorem lifted (os : Os) (started : os.Started) (H : Type) (enc : TypeId × Value → H) :
    ReturnsInHanded {} Try.checked os 5 .any (Rows.fnSetBothSpec.pre6 enc Try.prog Try.f5 Rows.fnSetBothRow.domain false) (Rows.fnSetBothSpec.post enc Try.prog Try.f5 false true false false) := by
  refine returnsInHanded_of_change (C := Try.checked) own started (by kernel_rfl) Try.func5
    (ChangeSpec.witness6 (enc := enc) (C := Try.checked) false ⟨#[], #[.slice none 0 0], []⟩ 8 (by kernel_rfl) (by kernel_rfl) (by kernel_rfl) (by kernel_rfl)) ?_
  intro W base args ds gs before hval0 hW hcnd _
  have hval : ∀ (j : Nat) t v, Try.f5.params[j]? = some t → args[j]? = some v → Value.okWide Try.prog W .any base t v := hval0
  have hW' := hW
  obtain ⟨p, q, hA0, hV, rfl, hfz, hnd⟩ := hW
  have hA : DataW.TrodAll enc Try.prog W 0 (fun _ => true) true Try.f5.params.toList args.toList ds p := hA0
  rw [Try.params5] at hA hval
  obtain ⟨v0, vs0, d0, ds0, p0, q0, hargs, rfl, rfl, h0, r0⟩ := trodAll_cons hA
  obtain ⟨rfl, rfl, rfl⟩ := trodAll_nil r0
  obtain rfl : args = #[v0] := by cases args; simp_all
  obtain ⟨rfl, rfl⟩ := trodVars_none hV
  obtain ⟨a0, len0, cap0, rfl⟩ := okWide_slice Try.underlying22 (hval 0 22 v0 rfl rfl)
  have k0 := h0
  have lt0 : ∀ x ∈ p0, x.block < W.heap.size := by obtain ⟨m, hm⟩ := k0; exact DataW.trod_lt m _ _ _ hm
  obtain ⟨z0, w0⟩ : ∃ zs, IsBytes W (.slice a0 len0 cap0) zs := by
    obtain ⟨fuel, hf⟩ := h0
    rcases open_ints Try.underlying22 Try.underlying5 (by kernel_rfl) hf with ⟨hcs, _⟩ | ⟨x, ln, cp, zs, hcs, _, hl, hm, hz, _, hcell, hwz⟩
    · exact bytes_of_none (by simpa [Value.cells] using hcs)
    · exact bytes_of_some (by simpa [Value.cells] using hcs) hl hm (by simpa using hz) hcell hwz
  clear hA0 hval0
  refine (walk (.slice a0 len0 cap0) z0 W w0).mono fun e W' ⟨he, bel⟩ => ?_
  subst he
  exact ⟨_, rfl, _, _, _, [], _, [], hW', trodAll_mk1 (shut_bool Try.underlying4 _), (trodAll_cons_mk (Below.trod laidOut (by kernel_rfl) (of_decide_eq_true (by kernel_rfl)) k0 bel lt0) trodAll_mk0), rfl, bel.frame _, fun h => by cases h⟩

theorem over : Rows.fnSetBothRow.holds Try.pinned (OpenSpec.ofChange Rows.fnSetBothSpec) :=
  OpenClaim.holds_of_wide 5 Try.f5 rfl rfl rfl rfl rfl rfl rfl ⟨rfl, rfl, rfl, rfl, rfl⟩ rfl rfl rfl rfl rfl (by kernel_rfl) Try.func5 (by kernel_rfl)
    (of_decide_eq_true (by kernel_rfl)) (by unfold Func.isWrapper; first | (rw [if_pos (by decide +kernel)]; kernel_rfl) | (rw [if_neg (by decide +kernel)]; exact ⟨rfl, rfl⟩))
    (fun os started H enc _ => lifted os started H enc)

theorem proved : Rows.FnSetBothSaid := over
end Go.Proofs.Ytlgchkmgbjcboaa.fnSetBoth
