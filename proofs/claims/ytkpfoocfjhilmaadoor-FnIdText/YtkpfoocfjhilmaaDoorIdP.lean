/- IdPut, the program's and the model's: one text. The table that Itoa reads is as the program's text lays it. -/
import Derived.Test.YtkpfoocfjhilmaaDoorIdG
import Derived.Test.YtkpfoocfjhilmaaDoorDec
import Derived.Test.YtkpfoocfjhilmaaDoorShelf
import Derived.Lib.ItoaNum
import Derived.Lib.LaidTab
import Derived.Lib.SmallJoins
namespace Go.Proofs.YtkpfoocfjhilmaaDoor
open Go.RowKit
open num

def ofL (l : List UInt8) : ByteArray := ⟨l.toArray⟩
theorem ofL_app (a b : List UInt8) : ofL a ++ ofL b = ofL (a ++ b) := by
  apply ByteArray.ext; simp [ofL]
def Tab (w : World) : Prop := Lib.TabIs Tryd.prog w "internal/strconv.uint64pow10" .u64 Lib.pow10Tab
theorem gPow : ∃ g, Tryd.prog.globalNamed "internal/strconv.uint64pow10" = some g := Option.isSome_iff_exists.1 (by kernel_rfl)
theorem tab_kept {w w' : World} (h : Tab w) (hb : Below w.heap.size w w') : Tab w' := by
  obtain ⟨g, hg⟩ := gPow
  exact Go.Joins.tab_stays hg h hb (Nat.le_refl _)
theorem below_grow (w : World) (k : Nat) (os : Array Obj) : Below w.heap.size w (Go.Sort.grow (w.drewN k) os) :=
  ⟨rfl, rfl, rfl, by simp [Go.Sort.grow], fun i hi => by
    show (w.heap ++ os)[i]? = w.heap[i]?
    rw [Array.getElem?_append_left hi]⟩
theorem one_dig (n : Nat) : strOfNums [48 + (n : Int)] = ofL [UInt8.ofNat (48 + n)] := by
  apply ByteArray.ext
  show (([48 + (n : Int)] : List Int).map fun n => UInt8.ofNat n.toNat).toArray = _
  simp only [List.map_cons, List.map_nil]
  have : (48 + (n : Int)).toNat = 48 + n := by omega
  rw [this]; rfl
theorem decS_dig (f : Nat) : ∀ n, n < 10 ^ (f + 1) → decS f n = ofL (Lib.decDigits n) := by
  induction f with
  | zero =>
    intro n hn
    rw [Lib.decDigits, dif_pos (by omega)]
    exact one_dig n
  | succ f ih =>
    intro n hn
    unfold decS
    by_cases h : n < 10
    · rw [if_pos h, Lib.decDigits, dif_pos h]; exact one_dig n
    · rw [if_neg h, Lib.decDigits, dif_neg h, ih (n / 10) (by rw [Nat.pow_succ] at hn; omega), ← ofL_app]
      have : (n : Int) % 10 = ((n % 10 : Nat) : Int) := by omega
      rw [this, one_dig]
theorem dig_size {n : Nat} (h : n ≤ 1000000000) : (ofL (Lib.decDigits n)).size ≤ 10 := by
  rw [← decS_dig 9 n (by omega)]; exact decS_size 9 n
theorem dec_call (n : Nat) (w : World) (h : n ≤ 1000000000) : Calls Tryd.prog 20 #[.int .i64 (n : Int)] w fun e w' => e = .returned (.string (ofL (Lib.decDigits n))) ∧ Below w.heap.size w w' :=
  (l1Dec_any 9 n w (by omega) (by omega)).mono fun e w' h2 => ⟨by rw [h2.1, decS_dig 9 n (by omega)], h2.2⟩
theorem itoa_call (n : Nat) (w : World) (h : n ≤ 1000000000) (ht : Tab w) : Calls Tryd.prog 15 #[.int .i64 (n : Int)] w fun e w' => e = .returned (.string (ofL (Lib.decDigits n))) ∧ Below w.heap.size w w' :=
  (Tryd.strconv_Itoa (n : Int) (by omega) (by omega) w ht).mono fun e w' ⟨h1, k, os, h2⟩ => ⟨by rw [h1]; unfold Lib.itoa; rw [if_neg (by omega)]; rfl, by rw [h2]; exact below_grow w k os⟩

/-- the text of an id -/
def idT (a b : Int) : ByteArray := if idOkB a b = true then ofL (Lib.decDigits a.toNat) ++ ⟨#[45]⟩ ++ ofL (Lib.decDigits b.toNat) else ByteArray.empty
theorem idT_no {a b : Int} (h : idOkB a b = false) : idT a b = ByteArray.empty := by unfold idT; rw [h]; rfl
theorem idT_ok (n m : Nat) (h : idOkB (n : Int) (m : Int) = true) : idT (n : Int) (m : Int) = ofL (Lib.decDigits n) ++ ⟨#[45]⟩ ++ ofL (Lib.decDigits m) := by unfold idT; rw [if_pos h]; rfl
theorem id_nats {a b : Int} (h : idOkB a b = true) : ∃ n m : Nat, a = n ∧ b = m ∧ n ≤ 1000000 ∧ m ≤ 1000000000 := by
  unfold idOkB inB at h
  simp only [Bool.and_eq_true, decide_eq_true_eq] at h
  exact ⟨a.toNat, b.toNat, by omega, by omega, by omega, by omega⟩
theorem one_box (w : World) (a b : Value) (t : TypeId) : ∀ w', Below (w.alloc (.cells #[a, b] t)).heap.size (w.alloc (.cells #[a, b] t)) w' →
    w'.cell? ⟨w.heap.size, 0, none⟩ = some a ∧ w'.cell? ⟨w.heap.size, 1, none⟩ = some b ∧ Below (w.alloc (.cells #[a, b] t)).heap.size (w.alloc (.cells #[a, b] t)) w' := by
  intro w' h
  have e0 : w'.heap[w.heap.size]? = some (.cells #[a, b] t (0, 0)) := by rw [h.block w.heap.size (by simp), heap_alloc_new]
  exact ⟨by rw [cell_of_row _ _ _ _ _ _ e0]; rfl, by rw [cell_of_row _ _ _ _ _ _ e0]; rfl, h⟩
theorem oneB {w w0 w1 : World} {A B : Prop} (hB : Below w.heap.size w w0) (h : A ∧ B ∧ Below w0.heap.size w0 w1) : Below w.heap.size w w1 := hB.trans (h.2.2.mono hB.size)
theorem oneHeld {w0 w1 w2 : World} {A B : Prop} (hb : Below w1.heap.size w1 w2) (h : A ∧ B ∧ Below w0.heap.size w0 w1) : Below w0.heap.size w0 w2 := h.2.2.trans (hb.mono h.2.2.size)

set_option maxRecDepth 100000 in
set_option maxHeartbeats 4000000 in
theorem specIdPut_any (a b : Int) (w : World) :
    Calls Tryd.prog 8 #[.agg #[.int .i64 a, .int .i64 b]] w fun e w' => e = .returned (.string (idT a b)) ∧ Below w.heap.size w w' := by
  have HD : Hid (∀ (k : Nat), k ≤ 1000000000 → ∀ w0 : World, Below w.heap.size w w0 → Calls Tryd.prog 20 #[.int .i64 (k : Int)] w0 fun e w' => e = .returned (.string (ofL (Lib.decDigits k))) ∧ Below w0.heap.size w0 w') := fun k hk w0 _ => dec_call k w0 hk
  have HK := one_box w (.int .i64 a) (.int .i64 b) 24
  have hB1 : Below w.heap.size w (w.alloc (.cells #[.int .i64 a, .int .i64 b] 24)) := (Below.refl _ w).alloc (Nat.le_refl _) _
  cases hok : idOkB a b with
  | false =>
    have HF : Hid (idT a b = ByteArray.empty) := idT_no hok
    go_enter Tryd.func8, Tryd.ntmps8
    go_wp2_with fail
    refine (l9Id_any a b _).mono ?_
    rw [hok]
    rintro e w2 ⟨rfl, hb⟩
    have hB2 := hB1.trans (hb.mono hB1.size)
    clear hb HK
    go_wp2_with fail
    go_ret
    exact ⟨by rw [HF.out]; rfl, hB2⟩
  | true =>
    obtain ⟨n, m, rfl, rfl, hn, hm⟩ := id_nats hok
    have HF : Hid (idT (n : Int) (m : Int) = ofL (Lib.decDigits n) ++ ⟨#[45]⟩ ++ ofL (Lib.decDigits m)) := idT_ok n m hok
    have HN : Hid (∀ w0 : World, Below w.heap.size w w0 → Calls Tryd.prog 20 #[.int .i64 (n : Int)] w0 fun e w' => e = .returned (.string (ofL (Lib.decDigits n))) ∧ Below w0.heap.size w0 w') := HD.out n (by omega)
    have HM : Hid (∀ w0 : World, Below w.heap.size w w0 → Calls Tryd.prog 20 #[.int .i64 (m : Int)] w0 fun e w' => e = .returned (.string (ofL (Lib.decDigits m))) ∧ Below w0.heap.size w0 w') := HD.out m hm
    have z1 := dig_size (n := n) (by omega)
    have z2 := dig_size (n := m) hm
    generalize ofL (Lib.decDigits n) = dn at *
    generalize ofL (Lib.decDigits m) = dm at *
    have z3 : ¬ 9223372036854775807 < dn.size + 1 := by omega
    have z5 : (ByteArray.mk #[45]).size = 1 := rfl
    have z4 : ¬ 9223372036854775807 < dn.size + 1 + dm.size := by omega
    clear HD
    go_enter Tryd.func8, Tryd.ntmps8
    go_wp2_with fail
    refine (l9Id_any _ _ _).mono ?_
    rw [hok]
    rintro e w2 ⟨rfl, hb⟩
    have hk2 := HK _ hb
    have HK : Hid _ := HK
    clear hb
    go_wp2_with fail
    go_region_held3 (fun w' => w'.cell? ⟨w.heap.size, 0, none⟩ = some (.int .i64 (n : Int)) ∧ w'.cell? ⟨w.heap.size, 1, none⟩ = some (.int .i64 (m : Int)) ∧ Below (w.alloc (.cells #[.int .i64 (n : Int), .int .i64 (m : Int)] 24)).heap.size (w.alloc (.cells #[.int .i64 (n : Int), .int .i64 (m : Int)] 24)) w') (first | exact HK.out _ hk2.2.2.drew | assumption | go_keep) (first
      | (go_at_call_of 20 (Value.int IntKind.i64 (n : Int)); refine (HN.out _ (oneB hB1 ‹_›)).mono ?_; rintro e w' ⟨rfl, hb⟩; have hk3 := HK.out _ (oneHeld hb ‹_›); clear hb)
      | (go_at_call_of 20 (Value.int IntKind.i64 (m : Int)); refine (HM.out _ (oneB hB1 ‹_›)).mono ?_; rintro e w' ⟨rfl, hb⟩; have hk3 := HK.out _ (oneHeld hb ‹_›); clear hb))
    have hB3 := oneB hB1 hk3
    clear hk3
    go_wp2_with fail
    go_ret
    exact ⟨by rw [HF.out]; rfl, hB3⟩

set_option maxRecDepth 100000 in
set_option maxHeartbeats 4000000 in
theorem implIdPut_any (a b : Int) (w : World) (ht : Tab w) :
    Calls Tryd.prog 5 #[.agg #[.int .i64 a, .int .i64 b]] w fun e w' => e = .returned (.string (idT a b)) ∧ Below w.heap.size w w' := by
  have HD : Hid (∀ (k : Nat), k ≤ 1000000000 → ∀ w0 : World, Below w.heap.size w w0 → Calls Tryd.prog 15 #[.int .i64 (k : Int)] w0 fun e w' => e = .returned (.string (ofL (Lib.decDigits k))) ∧ Below w0.heap.size w0 w') := fun k hk w0 hb => itoa_call k w0 hk (tab_kept ht hb)
  have HK := one_box w (.int .i64 a) (.int .i64 b) 24
  have hB1 : Below w.heap.size w (w.alloc (.cells #[.int .i64 a, .int .i64 b] 24)) := (Below.refl _ w).alloc (Nat.le_refl _) _
  cases hok : idOkB a b with
  | false =>
    have HF : Hid (idT a b = ByteArray.empty) := idT_no hok
    go_enter Tryd.func5, Tryd.ntmps5
    go_wp2_with fail
    refine (idOk_any a b _).mono ?_
    rw [hok]
    rintro e w2 ⟨rfl, hb⟩
    have hB2 := hB1.trans (hb.mono hB1.size)
    clear hb HK
    go_wp2_with fail
    go_ret
    exact ⟨by rw [HF.out]; rfl, hB2⟩
  | true =>
    obtain ⟨n, m, rfl, rfl, hn, hm⟩ := id_nats hok
    have HF : Hid (idT (n : Int) (m : Int) = ofL (Lib.decDigits n) ++ ⟨#[45]⟩ ++ ofL (Lib.decDigits m)) := idT_ok n m hok
    have HN : Hid (∀ w0 : World, Below w.heap.size w w0 → Calls Tryd.prog 15 #[.int .i64 (n : Int)] w0 fun e w' => e = .returned (.string (ofL (Lib.decDigits n))) ∧ Below w0.heap.size w0 w') := HD.out n (by omega)
    have HM : Hid (∀ w0 : World, Below w.heap.size w w0 → Calls Tryd.prog 15 #[.int .i64 (m : Int)] w0 fun e w' => e = .returned (.string (ofL (Lib.decDigits m))) ∧ Below w0.heap.size w0 w') := HD.out m hm
    have z1 := dig_size (n := n) (by omega)
    have z2 := dig_size (n := m) hm
    generalize ofL (Lib.decDigits n) = dn at *
    generalize ofL (Lib.decDigits m) = dm at *
    have z3 : ¬ 9223372036854775807 < dn.size + 1 := by omega
    have z5 : (ByteArray.mk #[45]).size = 1 := rfl
    have z4 : ¬ 9223372036854775807 < dn.size + 1 + dm.size := by omega
    clear HD
    go_enter Tryd.func5, Tryd.ntmps5
    go_wp2_with fail
    refine (idOk_any _ _ _).mono ?_
    rw [hok]
    rintro e w2 ⟨rfl, hb⟩
    have hk2 := HK _ hb
    have HK : Hid _ := HK
    clear hb
    go_wp2_with fail
    go_region_held3 (fun w' => w'.cell? ⟨w.heap.size, 0, none⟩ = some (.int .i64 (n : Int)) ∧ w'.cell? ⟨w.heap.size, 1, none⟩ = some (.int .i64 (m : Int)) ∧ Below (w.alloc (.cells #[.int .i64 (n : Int), .int .i64 (m : Int)] 24)).heap.size (w.alloc (.cells #[.int .i64 (n : Int), .int .i64 (m : Int)] 24)) w') (first | exact HK.out _ hk2.2.2.drew | assumption | go_keep) (first
      | (go_at_call_of 15 (Value.int IntKind.i64 (n : Int)); refine (HN.out _ (oneB hB1 ‹_›)).mono ?_; rintro e w' ⟨rfl, hb⟩; have hk3 := HK.out _ (oneHeld hb ‹_›); clear hb)
      | (go_at_call_of 15 (Value.int IntKind.i64 (m : Int)); refine (HM.out _ (oneB hB1 ‹_›)).mono ?_; rintro e w' ⟨rfl, hb⟩; have hk3 := HK.out _ (oneHeld hb ‹_›); clear hb))
    have hB3 := oneB hB1 hk3
    clear hk3
    go_wp2_with fail
    go_ret
    exact ⟨by rw [HF.out]; rfl, hB3⟩
end Go.Proofs.YtkpfoocfjhilmaaDoor
