/- Proved: of every drawn list and two places, texts from one place to another one are those between; ListRange and ListTrim answer as their models; from the first to the last it is all. No condition. -/
import Derived.Test.YtjgnfneondlhhaaRangeI
import Derived.Test.YtjgnfneondlhhaaQx
import Derived.Test.YtjgnfneondlhhaaDrawC
import Derived.ProofKit
import Derived.OpenShut
import Derived.ShutString
import Derived.ChangeOld
import Derived.Below
import Derived.Deep.RegionWith
namespace Go.Proofs.Ytjgnfneondlhhaa.fnListRange
open Go.ChangeShapes Go.WideShapes Go.ChangeAt Go.RowKit
open Go.ChangeMaps (open_string shut_string)
set_option linter.unusedVariables false

theorem own : ownKnob Try.prog.godebug = none := by kernel_rfl
theorem laidOut : laidOutB Try.prog = true := by kernel_rfl

theorem okB_parts {l : List ByteArray} (h : okB l = true) : l.length ≤ 16 ∧ short l = true := by
  unfold okB at h; simpa using h
theorem okB_mk {l : List ByteArray} (h1 : l.length ≤ 16) (h2 : short l = true) : okB l = true := by unfold okB; simp [h1, h2]
theorem all_of {l : List ByteArray} (h : okB l = true) : rngR l 0 (-1) = l := by
  have hb : rngB l 0 (-1) = true := by unfold rngB; rw [h]; rfl
  unfold rngR; rw [hb]
  show rng l 0 (-1) = l
  have hE : endE l.length 0 (-1) = l.length := by simp only [endE, fromP, toP]; (repeat' split) <;> omega
  have hA : endA l.length 0 (-1) = 0 := by simp only [endA, fromP, toP]; (repeat' split) <;> omega
  unfold rng; rw [hE, hA, List.take_length, List.drop_zero]
theorem rng_ok {l : List ByteArray} {a b : Int} (h : okB l = true) : okB (rng l a b) = true := by
  obtain ⟨h1, h2⟩ := okB_parts h
  refine okB_mk (by unfold rng; simp; omega) ?_
  unfold short at *; rw [List.all_eq_true] at *
  exact fun s hs => h2 s (List.mem_of_mem_take (List.mem_of_mem_drop hs))
/-- where a stretch that is not empty begins -/
theorem rng_at {l : List ByteArray} {a b : Int} (h : 0 < (rng l a b).length) : (endA l.length a b : Int) = fromP l.length a ∧ ∀ i, i < (rng l a b).length → endA l.length a b + i < l.length ∧ at_ (rng l a b) i = at_ l (endA l.length a b + i) := by
  have he := ends_le (n := l.length) a b
  have hlen : (rng l a b).length = endE l.length a b - endA l.length a b := by unfold rng; simp; omega
  constructor
  · have hf : 0 ≤ fromP l.length a := by unfold fromP; (repeat' split) <;> omega
    by_cases hn : toP l.length b < fromP l.length a
    · have : endE l.length a b = 0 := by unfold endE; rw [if_pos hn]
      omega
    · unfold endA; rw [if_neg hn]; omega
  · intro i hi
    refine ⟨by omega, ?_⟩
    unfold at_ rng
    rw [List.getD_eq_getElem?_getD, List.getD_eq_getElem?_getD, List.getElem?_drop, List.getElem?_take, if_pos (by omega)]

set_option maxHeartbeats 8000000 in
theorem walk (v : Value) (zs : List Int) (w : World) (h : IsBytes w v zs) :
    Calls Try.prog 12 #[v] w fun e w' => e = .returned (.bool true) ∧ Below w.heap.size w w' := by
  have hI := h
  obtain ⟨ao, cap, rfl, hlc, hcm, hzb, hz⟩ := h
  unfold maxLen at hcm
  clear hz hzb
  rcases Int.lt_or_le (1048576 : Int) (zs.length : Int) with hx | hx
  · go_enter Try.func12, Try.ntmps12
    go_wp2_with fail
    go_ret
    exact ⟨rfl, Below.refl _ _⟩
  · go_enter Try.func12, Try.ntmps12
    go_wp2_with fail
    refine (drawRange_any _ zs _ hI).mono ?_
    rintro e w1 ⟨u, l, a, b, rfl, ho1, hl, hs, ha0, ha1, hb0, hb1, HB1⟩
    have hW1 := HB1.size
    have rl1 := owns_reads ho1
    have hR := rngR_len l a b (by omega)
    clear hI ho1 hs
    obtain ⟨au, cu, hus⟩ := reads_shape rl1
    subst hus
    go_wp2_with fail
    refine (implRange_any _ l a b _ rl1 (by omega)).mono ?_
    rintro e w2 ⟨x, rfl, ox2, hb2⟩
    have rx2 := owns_reads ox2
    have rl2 := reads_kept rl1 hb2
    have HB2 := below_step HB1 hW1 hb2
    have hW2 := HB2.size
    clear hb2 HB1 rl1 ox2
    obtain ⟨ax, cx, hxs⟩ := reads_shape rx2
    subst hxs
    go_wp2_with fail
    refine (implTrim_any _ l a b _ rl2 (by omega)).mono ?_
    rintro e w3 ⟨y, rfl, oy3, hb3⟩
    have ry3 := owns_reads oy3
    have rl3 := reads_kept rl2 hb3
    have rx3 := reads_kept rx2 hb3
    have HB3 := below_step HB2 hW2 hb3
    have hW3 := HB3.size
    clear hb3 HB2 rl2 rx2 oy3
    go_wp2_with fail
    refine (specRange_any _ l a b _ rl3 (by omega)).mono ?_
    rintro e w4 ⟨z, rfl, oz4, hb4⟩
    have rz4 := owns_reads oz4
    have rl4 := reads_kept rl3 hb4
    have rx4 := reads_kept rx3 hb4
    have ry4 := reads_kept ry3 hb4
    have HB4 := below_step HB3 hW3 hb4
    have hW4 := HB4.size
    clear hb4 HB3 rl3 rx3 ry3 oz4
    go_wp2_with fail
    refine (qx_true _ z (rngR l a b) _ rx4 rz4 hR).mono ?_
    rintro e w5 ⟨rfl, hb5⟩
    have rl5 := reads_kept rl4 hb5
    have rx5 := reads_kept rx4 hb5
    have ry5 := reads_kept ry4 hb5
    have HB5 := below_step HB4 hW4 hb5
    have hW5 := HB5.size
    clear hb5 HB4 rl4 rx4 ry4 rz4
    go_wp2_with fail
    refine (specTrim_any _ l a b _ rl5 (by omega)).mono ?_
    rintro e w6 ⟨z, rfl, oz6, hb6⟩
    have rz6 := owns_reads oz6
    have rl6 := reads_kept rl5 hb6
    have rx6 := reads_kept rx5 hb6
    have ry6 := reads_kept ry5 hb6
    have HB6 := below_step HB5 hW5 hb6
    have hW6 := HB6.size
    clear hb6 HB5 rl5 rx5 ry5 oz6
    go_wp2_with fail
    refine (qx_true y z (rngR l a b) _ ry6 rz6 hR).mono ?_
    rintro e w7 ⟨rfl, hb7⟩
    have rl7 := reads_kept rl6 hb7
    have rx7 := reads_kept rx6 hb7
    have ry7 := reads_kept ry6 hb7
    have HB7 := below_step HB6 hW6 hb7
    have hW7 := HB7.size
    clear hb7 HB6 rl6 rx6 ry6 rz6
    go_wp2_with fail
    refine (qx_true _ y (rngR l a b) _ rx7 ry7 hR).mono ?_
    rintro e w8 ⟨rfl, hb8⟩
    have rl8 := reads_kept rl7 hb8
    have rx8 := reads_kept rx7 hb8
    have ry8 := reads_kept ry7 hb8
    have HB8 := below_step HB7 hW7 hb8
    have hW8 := HB8.size
    clear hb8 HB7 rl7 rx7 ry7
    by_cases h0 : (rngR l a b).length = 0
    · have h0' : (((rngR l a b).length : Int) == 0) = true := by rw [h0]; rfl
      clear h0
      go_wp2_with fail
      refine (specRange_any _ l a b _ rl8 (by omega)).mono ?_
      rintro e w9 ⟨z, rfl, oz9, hb9⟩
      have rz9 := owns_reads oz9
      have rl9 := reads_kept rl8 hb9
      have rx9 := reads_kept rx8 hb9
      have ry9 := reads_kept ry8 hb9
      have HB9 := below_step HB8 hW8 hb9
      have hW9 := HB9.size
      clear hb9 HB8 rl8 rx8 ry8 oz9
      go_wp2_with fail
      refine (qx_true _ z (rngR l a b) _ rx9 rz9 hR).mono ?_
      rintro e w10 ⟨rfl, hb10⟩
      have rl10 := reads_kept rl9 hb10
      have rx10 := reads_kept rx9 hb10
      have ry10 := reads_kept ry9 hb10
      have HB10 := below_step HB9 hW9 hb10
      have hW10 := HB10.size
      clear hb10 HB9 rl9 rx9 ry9 rz9
      go_wp2_with fail
      refine (specTrim_any _ l a b _ rl10 (by omega)).mono ?_
      rintro e w11 ⟨z, rfl, oz11, hb11⟩
      have rz11 := owns_reads oz11
      have rx11 := reads_kept rx10 hb11
      have ry11 := reads_kept ry10 hb11
      have HB11 := below_step HB10 hW10 hb11
      have hW11 := HB11.size
      clear hb11 HB10 rl10 rx10 ry10 oz11
      go_wp2_with fail
      refine (qx_true y z (rngR l a b) _ ry11 rz11 hR).mono ?_
      rintro e w12 ⟨rfl, hb12⟩
      have rx12 := reads_kept rx11 hb12
      have ry12 := reads_kept ry11 hb12
      have HB12 := below_step HB11 hW11 hb12
      have hW12 := HB12.size
      clear hb12 HB11 rx11 ry11 rz11
      go_wp2_with fail
      refine (qx_true _ y (rngR l a b) _ rx12 ry12 hR).mono ?_
      rintro e w13 ⟨rfl, hb13⟩
      have HB13 := below_step HB12 hW12 hb13
      go_wp2_with fail
      go_ret
      exact ⟨rfl, HB13⟩
    · have h0' : (((rngR l a b).length : Int) == 0) = false := beq_eq_false_iff_ne.2 (by omega)
      have hb : rngB l a b = true := by
        cases hb : rngB l a b with
        | true => rfl
        | false => exfalso; apply h0; unfold rngR; rw [hb]; rfl
      have hok : okB l = true := by unfold rngB at hb; simp only [Bool.and_eq_true] at hb; exact hb.1.1
      have hRR : rngR l a b = rng l a b := by unfold rngR; rw [hb]; rfl
      have hAt := rng_at (l := l) (a := a) (b := b) (by rw [← hRR]; omega)
      have HALL : Hid (rngR l 0 (-1) = l) := all_of hok
      have HALL2 : Hid (rngR (rngR l a b) 0 (-1) = rngR l a b) := all_of (by rw [hRR]; exact rng_ok hok)
      obtain ⟨A, hA⟩ : ∃ A, endA l.length a b = A := ⟨_, rfl⟩
      rw [hA, ← hRR] at hAt
      obtain ⟨bl, ol, hal, hbl, hcl⟩ := reads_some rl8 (by have := (hAt.2 0 (by omega)).1; omega)
      subst hal
      obtain ⟨bx, ox, hax, hbx, hcx⟩ := reads_some rx8 (by omega)
      subst hax
      generalize hX : rngR l a b = X at *
      have HX : Hid (rngR l a b = X) := hX
      clear hX hb hok hRR hA ry8 h0
      rcases (show (a < 0 ∧ a + (l.length : Int) < 0) ∨ (a < 0 ∧ 0 ≤ a + (l.length : Int)) ∨ 0 ≤ a by omega) with ⟨hc1, hc2⟩ | ⟨hc1, hc2⟩ | hc1
      all_goals
        have hP : (A : Int) = fromP l.length a := hAt.1
        unfold fromP at hP
      · rw [if_pos hc1, if_pos hc2] at hP
        have hP0 : (A : Int) = 0 := by omega
        have HP : Hid ((A : Int) = 0) := hP0
        clear hP0
        clear hP
        go_wp2_with fail
        go_loopw [9] (fun i wr => ∃ k : Nat, k ≤ X.length ∧ i = .int .i64 (k : Int) ∧ Below w8.heap.size w8 wr) (fun i _ => X.length - (intOf i).toNat)
        case atStart => exact ⟨0, Nat.zero_le _, rfl, Below.refl _ _⟩
        case round =>
          obtain ⟨k, hk, rfl, hB⟩ := hrel
          by_cases hlt : k < X.length
          · have h1 := (hAt.2 k hlt).1
            have hcl2 : wr.cell? ⟨bl, ol + (A + k), none⟩ = some (.string (at_ l (A + k))) := (hB.cell (p := ⟨bl, ol + (A + k), none⟩) hbl).trans (hcl (A + k) h1)
            have hcx2 : wr.cell? ⟨bx, ox + k, none⟩ = some (.string (at_ X k)) := (hB.cell (p := ⟨bx, ox + k, none⟩) hbx).trans (hcx k hlt)
            rw [← (hAt.2 k hlt).2] at hcl2
            have hi1 : (k : Int) < (X.length : Int) := by omega
            obtain ⟨m, hm⟩ : ∃ m, A + k = m := ⟨_, rfl⟩
            rw [hm] at hcl2 h1
            have hP2 := HP.out
            have hwr : IntKind.i64.wrap (0 + (k : Int)) = (m : Int) := by rw [wrap_mid (by omega) (by omega)]; omega
            have hwr2 : IntKind.i64.wrap (k : Int) = (m : Int) := by rw [wrap_mid (by omega) (by omega)]; omega
            clear hP2
            have hi2 : (m : Int) < (l.length : Int) := by omega
            have hne := ne_self (at_ X k)
            clear hAt hcl hcx hm h1
            go_wp2_with fail
            go_quiet (fail)
            go_wp2_with fail
            go_roundw
            case rel => exact ⟨k + 1, hlt, by go_num, below_drewN hB _⟩
            case measure => simp [intOf]; omega
          · have HB9 := HB8.trans (hB.mono hW8)
            have hW9 := HB9.size
            have rl9 := reads_kept rl8 hB
            have rx9 := reads_kept rx8 hB
            clear hAt hcl hcx
            go_wp2_with fail
            refine (implRange_any _ l 0 (-1) _ rl9 (by omega)).mono ?_
            rintro e w10 ⟨z, rfl, oz10, hb10⟩
            rw [HALL.out] at oz10
            have rl10 := reads_kept rl9 hb10
            have rx10 := reads_kept rx9 hb10
            have HB10 := below_step HB9 hW9 hb10
            have hW10 := HB10.size
            clear hb10 HB9 rl9 rx9
            go_wp2_with fail
            refine (qx_true z _ l _ (owns_reads oz10) rl10 (by omega)).mono ?_
            rintro e w11 ⟨rfl, hb11⟩
            have rx11 := reads_kept rx10 hb11
            have HB11 := below_step HB10 hW10 hb11
            have hW11 := HB11.size
            clear hb11 HB10 rl10 rx10 oz10
            go_wp2_with fail
            refine (implTrim_any _ X 0 (-1) _ rx11 hR).mono ?_
            rintro e w12 ⟨z, rfl, oz12, hb12⟩
            rw [HALL2.out] at oz12
            have rx12 := reads_kept rx11 hb12
            have HB12 := below_step HB11 hW11 hb12
            have hW12 := HB12.size
            clear hb12 HB11 rx11
            go_wp2_with fail
            refine (qx_true z _ X _ (owns_reads oz12) rx12 hR).mono ?_
            rintro e w13 ⟨rfl, hb13⟩
            have HB13 := below_step HB12 hW12 hb13
            clear hb13 HB12
            go_wp2_with fail
            go_ret
            exact ⟨rfl, HB13⟩
      · rw [if_pos hc1, if_neg (by omega)] at hP
        have HP : Hid ((A : Int) = a + l.length) := hP
        clear hP
        go_wp2_with fail
        go_loopw [9] (fun i wr => ∃ k : Nat, k ≤ X.length ∧ i = .int .i64 (k : Int) ∧ Below w8.heap.size w8 wr) (fun i _ => X.length - (intOf i).toNat)
        case atStart => exact ⟨0, Nat.zero_le _, rfl, Below.refl _ _⟩
        case round =>
          obtain ⟨k, hk, rfl, hB⟩ := hrel
          by_cases hlt : k < X.length
          · have h1 := (hAt.2 k hlt).1
            have hcl2 : wr.cell? ⟨bl, ol + (A + k), none⟩ = some (.string (at_ l (A + k))) := (hB.cell (p := ⟨bl, ol + (A + k), none⟩) hbl).trans (hcl (A + k) h1)
            have hcx2 : wr.cell? ⟨bx, ox + k, none⟩ = some (.string (at_ X k)) := (hB.cell (p := ⟨bx, ox + k, none⟩) hbx).trans (hcx k hlt)
            rw [← (hAt.2 k hlt).2] at hcl2
            have hi1 : (k : Int) < (X.length : Int) := by omega
            obtain ⟨m, hm⟩ : ∃ m, A + k = m := ⟨_, rfl⟩
            rw [hm] at hcl2 h1
            have hP2 := HP.out
            have hwr : IntKind.i64.wrap (a + (l.length : Int) + (k : Int)) = (m : Int) := by rw [wrap_mid (by omega) (by omega)]; omega
            clear hP2
            have hi2 : (m : Int) < (l.length : Int) := by omega
            have hne := ne_self (at_ X k)
            clear hAt hcl hcx hm h1
            go_wp2_with fail
            go_quiet (fail)
            go_wp2_with fail
            go_roundw
            case rel => exact ⟨k + 1, hlt, by go_num, below_drewN hB _⟩
            case measure => simp [intOf]; omega
          · have HB9 := HB8.trans (hB.mono hW8)
            have hW9 := HB9.size
            have rl9 := reads_kept rl8 hB
            have rx9 := reads_kept rx8 hB
            clear hAt hcl hcx
            go_wp2_with fail
            refine (implRange_any _ l 0 (-1) _ rl9 (by omega)).mono ?_
            rintro e w10 ⟨z, rfl, oz10, hb10⟩
            rw [HALL.out] at oz10
            have rl10 := reads_kept rl9 hb10
            have rx10 := reads_kept rx9 hb10
            have HB10 := below_step HB9 hW9 hb10
            have hW10 := HB10.size
            clear hb10 HB9 rl9 rx9
            go_wp2_with fail
            refine (qx_true z _ l _ (owns_reads oz10) rl10 (by omega)).mono ?_
            rintro e w11 ⟨rfl, hb11⟩
            have rx11 := reads_kept rx10 hb11
            have HB11 := below_step HB10 hW10 hb11
            have hW11 := HB11.size
            clear hb11 HB10 rl10 rx10 oz10
            go_wp2_with fail
            refine (implTrim_any _ X 0 (-1) _ rx11 hR).mono ?_
            rintro e w12 ⟨z, rfl, oz12, hb12⟩
            rw [HALL2.out] at oz12
            have rx12 := reads_kept rx11 hb12
            have HB12 := below_step HB11 hW11 hb12
            have hW12 := HB12.size
            clear hb12 HB11 rx11
            go_wp2_with fail
            refine (qx_true z _ X _ (owns_reads oz12) rx12 hR).mono ?_
            rintro e w13 ⟨rfl, hb13⟩
            have HB13 := below_step HB12 hW12 hb13
            clear hb13 HB12
            go_wp2_with fail
            go_ret
            exact ⟨rfl, HB13⟩
      · rw [if_neg (by omega)] at hP
        have HP : Hid ((A : Int) = a) := hP
        clear hP
        go_wp2_with fail
        go_loopw [9] (fun i wr => ∃ k : Nat, k ≤ X.length ∧ i = .int .i64 (k : Int) ∧ Below w8.heap.size w8 wr) (fun i _ => X.length - (intOf i).toNat)
        case atStart => exact ⟨0, Nat.zero_le _, rfl, Below.refl _ _⟩
        case round =>
          obtain ⟨k, hk, rfl, hB⟩ := hrel
          by_cases hlt : k < X.length
          · have h1 := (hAt.2 k hlt).1
            have hcl2 : wr.cell? ⟨bl, ol + (A + k), none⟩ = some (.string (at_ l (A + k))) := (hB.cell (p := ⟨bl, ol + (A + k), none⟩) hbl).trans (hcl (A + k) h1)
            have hcx2 : wr.cell? ⟨bx, ox + k, none⟩ = some (.string (at_ X k)) := (hB.cell (p := ⟨bx, ox + k, none⟩) hbx).trans (hcx k hlt)
            rw [← (hAt.2 k hlt).2] at hcl2
            have hi1 : (k : Int) < (X.length : Int) := by omega
            obtain ⟨m, hm⟩ : ∃ m, A + k = m := ⟨_, rfl⟩
            rw [hm] at hcl2 h1
            have hP2 := HP.out
            have hwr : IntKind.i64.wrap (a + (k : Int)) = (m : Int) := by rw [wrap_mid (by omega) (by omega)]; omega
            clear hP2
            have hi2 : (m : Int) < (l.length : Int) := by omega
            have hne := ne_self (at_ X k)
            clear hAt hcl hcx hm h1
            go_wp2_with fail
            go_quiet (fail)
            go_wp2_with fail
            go_roundw
            case rel => exact ⟨k + 1, hlt, by go_num, below_drewN hB _⟩
            case measure => simp [intOf]; omega
          · have HB9 := HB8.trans (hB.mono hW8)
            have hW9 := HB9.size
            have rl9 := reads_kept rl8 hB
            have rx9 := reads_kept rx8 hB
            clear hAt hcl hcx
            go_wp2_with fail
            refine (implRange_any _ l 0 (-1) _ rl9 (by omega)).mono ?_
            rintro e w10 ⟨z, rfl, oz10, hb10⟩
            rw [HALL.out] at oz10
            have rl10 := reads_kept rl9 hb10
            have rx10 := reads_kept rx9 hb10
            have HB10 := below_step HB9 hW9 hb10
            have hW10 := HB10.size
            clear hb10 HB9 rl9 rx9
            go_wp2_with fail
            refine (qx_true z _ l _ (owns_reads oz10) rl10 (by omega)).mono ?_
            rintro e w11 ⟨rfl, hb11⟩
            have rx11 := reads_kept rx10 hb11
            have HB11 := below_step HB10 hW10 hb11
            have hW11 := HB11.size
            clear hb11 HB10 rl10 rx10 oz10
            go_wp2_with fail
            refine (implTrim_any _ X 0 (-1) _ rx11 hR).mono ?_
            rintro e w12 ⟨z, rfl, oz12, hb12⟩
            rw [HALL2.out] at oz12
            have rx12 := reads_kept rx11 hb12
            have HB12 := below_step HB11 hW11 hb12
            have hW12 := HB12.size
            clear hb12 HB11 rx11
            go_wp2_with fail
            refine (qx_true z _ X _ (owns_reads oz12) rx12 hR).mono ?_
            rintro e w13 ⟨rfl, hb13⟩
            have HB13 := below_step HB12 hW12 hb13
            clear hb13 HB12
            go_wp2_with fail
            go_ret
            exact ⟨rfl, HB13⟩

set_option maxRecDepth 100000 in
theorem lifted (os : Os) (started : os.Started) (H : Type) (enc : TypeId × Value → H) :
    ReturnsInHanded {} Try.checked os 12 .any (Rows.fnListRangeSpec.pre6 enc Try.prog Try.f12 Rows.fnListRangeRow.domain false) (Rows.fnListRangeSpec.post enc Try.prog Try.f12 false true false false) := by
  refine returnsInHanded_of_change (C := Try.checked) own started (by kernel_rfl) Try.func12
    (ChangeSpec.witness6 (enc := enc) (C := Try.checked) false ⟨#[], #[.slice none 0 0], []⟩ 8 (by kernel_rfl) (by kernel_rfl) (by kernel_rfl) (by kernel_rfl)) ?_
  intro W base args ds gs before hval0 hW hcnd _
  have hval : ∀ (j : Nat) t v, Try.f12.params[j]? = some t → args[j]? = some v → Value.okWide Try.prog W .any base t v := hval0
  have hW' := hW
  obtain ⟨p, q, hA0, hV, rfl, hfz, hnd⟩ := hW
  have hA : DataW.TrodAll enc Try.prog W 0 (fun _ => true) true Try.f12.params.toList args.toList ds p := hA0
  rw [Try.params12] at hA hval
  obtain ⟨v0, vs0, d0, ds0, p0, q0, hargs, rfl, rfl, h0, r0⟩ := trodAll_cons hA
  obtain ⟨rfl, rfl, rfl⟩ := trodAll_nil r0
  obtain rfl : args = #[v0] := by cases args; simp_all
  obtain ⟨rfl, rfl⟩ := trodVars_none hV
  obtain ⟨a0, len0, cap0, rfl⟩ := okWide_slice Try.underlying39 (hval 0 39 v0 rfl rfl)
  have k0 := h0
  have lt0 : ∀ x ∈ p0, x.block < W.heap.size := by obtain ⟨m, hm⟩ := k0; exact DataW.trod_lt m _ _ _ hm
  obtain ⟨z0, w0⟩ : ∃ zs, IsBytes W (.slice a0 len0 cap0) zs := by
    obtain ⟨fuel, hf⟩ := h0
    rcases open_ints Try.underlying39 Try.underlying5 (by kernel_rfl) hf with ⟨hcs, _⟩ | ⟨x, ln, cp, zs, hcs, _, hl, hm, hz, _, hcell, hwz⟩
    · exact bytes_of_none (by simpa [Value.cells] using hcs)
    · exact bytes_of_some (by simpa [Value.cells] using hcs) hl hm (by simpa using hz) hcell hwz
  clear hA0 hval0
  refine (walk (.slice a0 len0 cap0) z0 W w0).mono fun e W' ⟨he, bel⟩ => ?_
  subst he
  exact ⟨_, rfl, _, _, _, [], _, [], hW', trodAll_mk1 (shut_bool Try.underlying4 _), (trodAll_cons_mk (Below.trod laidOut (by kernel_rfl) (of_decide_eq_true (by kernel_rfl)) k0 bel lt0) trodAll_mk0), rfl, bel.frame _, fun h => by cases h⟩

theorem over : Rows.fnListRangeRow.holds Try.pinned (OpenSpec.ofChange Rows.fnListRangeSpec) :=
  OpenClaim.holds_of_wide 12 Try.f12 rfl rfl rfl rfl rfl rfl rfl ⟨rfl, rfl, rfl, rfl, rfl⟩ rfl rfl rfl rfl rfl (by kernel_rfl) Try.func12 (by kernel_rfl)
    (of_decide_eq_true (by kernel_rfl)) (by unfold Func.isWrapper; first | (rw [if_pos (by decide +kernel)]; kernel_rfl) | (rw [if_neg (by decide +kernel)]; exact ⟨rfl, rfl⟩))
    (fun os started H enc _ => lifted os started H enc)

theorem proved : Rows.FnListRangeSaid := over
end Go.Proofs.Ytjgnfneondlhhaa.fnListRange
