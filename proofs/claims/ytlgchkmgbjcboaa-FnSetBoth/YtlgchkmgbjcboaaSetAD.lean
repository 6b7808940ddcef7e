/- SetDrop and SetAdd of the program; SetAdd of the model. -/
import Derived.Test.YtlgchkmgbjcboaaSetAA
import Derived.Test.YtlgchkmgbjcboaaSetAC
namespace Go.Proofs.Ytlgchkmgbjcboaa
open Go.RowKit

theorem setB_of {c : List ByteArray} (h : Asc c) (h16 : c.length ≤ 16) (hs : ∀ s ∈ c, s.size ≤ 40) : setB c = true := by
  unfold setB okB short ascB
  rw [Bool.and_eq_true, Bool.and_eq_true, List.all_eq_true, List.all_eq_true]
  refine ⟨fun j hj => ?_, by simpa using h16, fun s hm => by simpa using hs s hm⟩
  have hj' := List.mem_range.1 hj
  by_cases e : j = 0
  · simp [e]
  · have := (List.pairwise_iff_getElem.1 h) (j - 1) j (by omega) hj' (by omega)
    rw [at_lt hj', at_lt (show j - 1 < c.length by omega)]
    simp only [Bool.or_eq_true]; exact .inr this
theorem okB_facts {l : List ByteArray} (h : okB l = true) : l.length ≤ 16 ∧ ∀ s ∈ l, s.size ≤ 40 := by
  unfold okB short at h
  rw [Bool.and_eq_true, List.all_eq_true] at h
  exact ⟨by simpa using h.1, fun s hm => by simpa using h.2 s hm⟩
theorem pickL_drop {a b c : List ByteArray} (ha : Asc a) (hc : Asc c) (h : ∀ s, s ∈ c ↔ s ∈ b) : pickL 1 (mrg a c) = lessM a b :=
  (pickL_M ha hc (m := 1) (.inl rfl)).trans (pickM_less_of ha hc h)
theorem anyR_add {a b c : List ByteArray} (ha : setB a = true) (hc : setB c = true) (h : ∀ s, s ∈ c ↔ s ∈ b) : anyR a c = putsM a b := by
  unfold anyR; rw [ha, hc, if_pos (show (true && true) = true from rfl), ← pickM_any (setB_asc ha) (setB_asc hc)]
  exact pickM_any_of (setB_asc ha) (setB_asc hc) h
theorem lessM_len16 {a : List ByteArray} (b : List ByteArray) (h : setB a = true) : (lessM a b).length ≤ 16 := Nat.le_trans (lessM_len a b) (setB_len h)

set_option maxHeartbeats 4000000 in
theorem implSDrop_any (v u : Value) (a b : List ByteArray) (w : World) (hr : Reads w v a) (hq : Reads w u b) (ha : a.length ≤ 1048576) (hb : b.length ≤ 1048576) :
    Calls Try.prog 20 #[v, u] w fun e w' => ∃ x, e = .returned (.tuple #[x, .int .i64 (sdropN a b)]) ∧ Owns w' w.heap.size x (sdropR a b) ∧ Below w.heap.size w w' := by
  obtain ⟨ao, cap, rfl⟩ := reads_shape hr
  cases hs : setB a with
  | false =>
    have HR : Hid (sdropR a b = [] ∧ sdropN a b = 0) := by show _ ∧ _; unfold sdropR sdropN; rw [hs]; exact ⟨rfl, rfl⟩
    go_enter Try.func20, Try.ntmps20
    go_wp2_with fail
    refine (implSetOk_any _ a _ hr ha).mono ?_
    rintro e w2 ⟨rfl, hb2⟩
    have hB2 := below_stepT (Below.refl _ w) hb2
    rw [hs]
    clear hb2
    go_wp2_with fail
    go_ret2
    exact ⟨_, by rw [HR.out.2]; rfl, by rw [HR.out.1]; exact World.ownsRow_nil _ _ _ _, hB2⟩
  | true =>
    have HR : Hid (sdropR a b = lessM a b ∧ sdropN a b = (a.length : Int) - (lessM a b).length) := by show _ ∧ _; unfold sdropR sdropN; rw [hs]; exact ⟨rfl, rfl⟩
    have hl16 := lessM_len16 b hs
    have ha16 := setB_len hs
    have HS : Hid (setB a = true) := hs
    go_enter Try.func20, Try.ntmps20
    go_wp2_with fail
    refine (implSetOk_any _ a _ hr ha).mono ?_
    rintro e w2 ⟨rfl, hb2⟩
    have hB2 := below_stepT (Below.refl _ w) hb2
    rw [hs]
    clear hb2 hs
    go_wp2_with fail
    refine (ascending_any _ b _ (reads_kept hq hB2) hb).mono ?_
    rintro e w3 ⟨x3, c, rfl, hr3, hac, hmc, hlc, hb3⟩
    have hB3 := below_stepT hB2 hb3
    have HP : Hid (pickL 1 (mrg a c) = lessM a b) := pickL_drop (setB_asc HS.out) hac hmc
    clear hb3 hB2 hac hmc
    go_wp2_with fail
    refine (pickS_any _ _ a c 1 (.inl rfl) _ (reads_kept hr hB3) hr3 ha (by omega)).mono ?_
    rintro e w4 ⟨x4, rfl, ho4, hb4⟩
    have hB4 := below_stepT hB3 hb4
    have ho5 : Owns w4 w.heap.size x4 (lessM a b) := by rw [← HP.out]; exact owns_base ho4 hB3.size
    clear hb4 ho4 hB3 hr3 HP
    obtain ⟨a4, c4, hx4⟩ := reads_shape (owns_reads ho5)
    subst hx4
    generalize lessM a b = O at *
    go_wp2_with fail
    go_ret2
    exact ⟨_, by rw [HR.out.2]; rfl, by rw [HR.out.1]; exact ho5, hB4⟩

def saddB (a b : List ByteArray) : Bool := setB a && okB b && decide ((putsM a b).length ≤ 16)
def saddR (a b : List ByteArray) : List ByteArray := if setB a = true then (if saddB a b = true then putsM a b else a) else []
def saddN (a b : List ByteArray) : Int := if saddB a b = true then ((putsM a b).length : Int) - a.length else 0
theorem sadd_none {a b : List ByteArray} (h : setB a = false) : saddR a b = [] ∧ saddN a b = 0 ∧ saddB a b = false := by
  have hb : saddB a b = false := by unfold saddB; rw [h]; rfl
  unfold saddR saddN; rw [hb, h]; exact ⟨rfl, rfl, rfl⟩
theorem sadd_not {a b : List ByteArray} (h : setB a = true) (hb : saddB a b = false) : saddR a b = a ∧ saddN a b = 0 ∧ saddB a b = false := by
  unfold saddR saddN; rw [hb, h]; exact ⟨rfl, rfl, rfl⟩
theorem sadd_yes {a b : List ByteArray} (h : setB a = true) (hb : saddB a b = true) : saddR a b = putsM a b ∧ saddN a b = ((putsM a b).length : Int) - a.length ∧ saddB a b = true := by
  unfold saddR saddN; rw [hb, h]; exact ⟨rfl, rfl, rfl⟩

set_option maxHeartbeats 4000000 in
theorem implSAdd_any (v u : Value) (a b : List ByteArray) (w : World) (hr : Reads w v a) (hq : Reads w u b) (ha : a.length ≤ 1048576) (hb : b.length ≤ 1048576) :
    Calls Try.prog 13 #[v, u] w fun e w' => ∃ x, e = .returned (.tuple #[x, .int .i64 (saddN a b), .bool (saddB a b)]) ∧ Owns w' w.heap.size x (saddR a b) ∧ Below w.heap.size w w' := by
  obtain ⟨ao, cap, rfl⟩ := reads_shape hr
  cases hs : setB a with
  | false =>
    have HR : Hid _ := sadd_none (b := b) hs
    go_enter Try.func13, Try.ntmps13
    go_wp2_with fail
    refine (implSetOk_any _ a _ hr ha).mono ?_
    rintro e w2 ⟨rfl, hb2⟩
    have hB2 := below_stepT (Below.refl _ w) hb2
    rw [hs]
    clear hb2
    go_wp2_with fail
    go_ret3
    exact ⟨_, by rw [HR.out.2.1, HR.out.2.2]; rfl, by rw [HR.out.1]; exact World.ownsRow_nil _ _ _ _, hB2⟩
  | true =>
    have ha16 := setB_len hs
    have HS : Hid (setB a = true) := hs
    go_enter Try.func13, Try.ntmps13
    go_wp2_with fail
    refine (implSetOk_any _ a _ hr ha).mono ?_
    rintro e w2 ⟨rfl, hb2⟩
    have hB2 := below_stepT (Below.refl _ w) hb2
    rw [hs]
    clear hb2 hs
    go_wp2_with fail
    refine (listOk_any _ b _ (reads_kept hq hB2) hb).mono ?_
    rintro e w3 ⟨rfl, rfl⟩
    cases hok : okB b with
    | false =>
      have HR : Hid _ := sadd_not (b := b) HS.out (by unfold saddB; rw [hok]; simp)
      clear hok
      go_wp2_with fail
      refine (cloneS_any _ a _ (reads_kept hr hB2) ha).mono ?_
      rintro e w4 ⟨x4, rfl, ho4, hb4⟩
      have hB4 := below_stepT hB2 hb4
      have ho5 := owns_base ho4 hB2.size
      clear ho4 hb4
      go_wp2_with fail
      go_ret3
      exact ⟨_, by rw [HR.out.2.1, HR.out.2.2]; rfl, by rw [HR.out.1]; exact ho5, hB4⟩
    | true =>
      have HOK : Hid (okB b = true) := hok
      clear hok
      go_wp2_with fail
      refine (ascending_any _ b _ (reads_kept hq hB2) hb).mono ?_
      rintro e w4 ⟨x4, c, rfl, hr4, hac, hmc, hlc, hb4⟩
      have hB4 := below_stepT hB2 hb4
      have HP : Hid (anyR a c = putsM a b) := by
        have hf := okB_facts HOK.out
        exact anyR_add HS.out (setB_of hac (by omega) (fun s hm => hf.2 s ((hmc s).1 hm))) hmc
      clear hb4 hB2 hac hmc
      go_wp2_with fail
      refine (implAny_any _ _ a c _ (reads_kept hr hB4) hr4 ha (by omega)).mono ?_
      rintro e w5 ⟨x5, rfl, ho5, hb5⟩
      have hB5 := below_stepT hB4 hb5
      have ho6 : Owns w5 w.heap.size x5 (putsM a b) := by rw [← HP.out]; exact owns_base ho5 hB4.size
      clear hb5 ho5 hB4 hr4 HP
      have hpl := anyM_len a b
      obtain ⟨a5, c5, hx5⟩ := reads_shape (owns_reads ho6)
      subst hx5
      by_cases h16 : (putsM a b).length ≤ 16
      · have HR : Hid _ := sadd_yes (b := b) HS.out (by unfold saddB; rw [HS.out, HOK.out]; simpa using h16)
        have hi16 : ((putsM a b).length : Int) ≤ 16 := by omega
        generalize putsM a b = O at *
        go_wp2_with fail
        go_ret3
        exact ⟨_, by rw [HR.out.2.1, HR.out.2.2]; rfl, by rw [HR.out.1]; exact ho6, hB5⟩
      · have HR : Hid _ := sadd_not (b := b) HS.out (by unfold saddB; rw [HS.out, HOK.out]; simpa using h16)
        have hi16 : (16 : Int) < ((putsM a b).length : Int) := by omega
        generalize putsM a b = O at *
        go_wp2_with fail
        refine (cloneS_any _ a _ (reads_kept hr hB5) ha).mono ?_
        rintro e w7 ⟨x7, rfl, ho7, hb7⟩
        have hB7 := below_stepT hB5 hb7
        have ho8 := owns_base ho7 hB5.size
        clear ho7 hb7
        go_wp2_with fail
        go_ret3
        exact ⟨_, by rw [HR.out.2.1, HR.out.2.2]; rfl, by rw [HR.out.1]; exact ho8, hB7⟩

set_option maxHeartbeats 4000000 in
theorem specSAdd_any (v u : Value) (a b : List ByteArray) (w : World) (hr : Reads w v a) (hq : Reads w u b) (ha : a.length ≤ 1048576) (hb : b.length ≤ 1048576) :
    Calls Try.prog 14 #[v, u] w fun e w' => ∃ x, e = .returned (.tuple #[x, .int .i64 (saddN a b), .bool (saddB a b)]) ∧ Owns w' w.heap.size x (saddR a b) ∧ Below w.heap.size w w' := by
  obtain ⟨ao, cap, rfl⟩ := reads_shape hr
  obtain ⟨ab, cb, rfl⟩ := reads_shape hq
  cases hs : setB a with
  | false =>
    have HR : Hid _ := sadd_none (b := b) hs
    go_enter Try.func14, Try.ntmps14
    go_wp2_with fail
    refine (specSetOk_any _ a _ hr ha).mono ?_
    rintro e w2 ⟨rfl, hb2⟩
    have hB2 := below_stepT (Below.refl _ w) hb2
    have ho2 : Owns (w2.alloc (.cells #[] 9)) w.heap.size (.slice (some ⟨w2.heap.size, 0, none⟩) 0 0) [] := World.ownsRow_lit w2 #[] 0 hB2.size (by simp) rfl
    have hB2' := hB2.alloc hB2.size (.cells #[] 9)
    rw [hs]
    clear hb2
    go_wp2_with fail
    go_ret3
    exact ⟨_, by rw [HR.out.2.1, HR.out.2.2]; rfl, by rw [HR.out.1]; exact ho2, hB2'⟩
  | true =>
    have ha16 := setB_len hs
    have HS : Hid (setB a = true) := hs
    go_enter Try.func14, Try.ntmps14
    go_wp2_with fail
    refine (specSetOk_any _ a _ hr ha).mono ?_
    rintro e w2 ⟨rfl, hb2⟩
    have hB2 := below_stepT (Below.refl _ w) hb2
    rw [hs]
    clear hb2 hs
    go_wp2_with fail
    refine (copy_any _ a _ (reads_kept hr hB2) ha).mono ?_
    rintro e w3 ⟨x3, rfl, ho3, hb3⟩
    have hB3 := below_stepT hB2 hb3
    have ho4 := owns_base ho3 hB2.size
    clear ho3 hb3 hB2
    go_wp2_with fail
    refine (l2Texts_any _ b _ (reads_kept hq hB3) hb).mono ?_
    rintro e w5 ⟨rfl, rfl⟩
    cases hok : okB b with
    | false =>
      have HR : Hid _ := sadd_not (b := b) HS.out (by unfold saddB; rw [hok]; simp)
      clear hok
      go_wp2_with fail
      go_ret3
      exact ⟨_, by rw [HR.out.2.1, HR.out.2.2]; rfl, by rw [HR.out.1]; exact ho4, hB3⟩
    | true =>
      have HOK : Hid (okB b = true) := hok
      clear hok
      go_wp2_with fail
      go_loopw [7, 8] (fun x i wr => ∃ k : Nat, k ≤ b.length ∧ i = .int .i64 (k : Int) ∧ Owns wr w.heap.size x (putsM a (b.take k)) ∧ Below w.heap.size w wr) (fun _ i _ => b.length - (intOf i).toNat)
      case atStart => exact ⟨0, Nat.zero_le _, rfl, ho4, hB3⟩
      case round =>
        obtain ⟨k, hk, rfl, ho, hB⟩ := hrel
        clear ho4 hB3
        by_cases hlt : k < b.length
        · have hi1 : (k : Int) < (b.length : Int) := by omega
          obtain ⟨bl, off, rfl, hbl, hc⟩ := reads_someS hq (by omega)
          have hcell : wr.cell? ⟨bl, off + k, none⟩ = some (.string (at_ b k)) := (hB.cell (p := ⟨bl, off + k, none⟩) hbl).trans (hc k hlt)
          clear hc
          have hpl := putsM_len (b.take k) a
          have htk : (b.take k).length = k := by simp; omega
          have HSS : Hid (putsM a (b.take (k + 1)) = putM (putsM a (b.take k)) (at_ b k)) := puts_snoc hlt
          generalize putsM a (b.take k) = O at *
          go_wp2_with fail
          refine (l2Put_any _ O (at_ b k) w.heap.size _ ho hB.size (by omega)).mono ?_
          rintro e w6 ⟨x6, rfl, ho6, hb6⟩
          have hB6 := below_stepT hB hb6
          clear hb6 hB ho
          go_wp2_with fail
          go_roundw
          case rel => exact ⟨k + 1, hlt, by go_num, by rw [HSS.out]; exact ho6, hB6⟩
          case measure => simp [intOf]; omega
        · obtain rfl : k = b.length := by omega
          rw [List.take_length] at ho
          have hpl := anyM_len a b
          obtain ⟨a5, c5, hx5⟩ := reads_shape (owns_reads ho)
          subst hx5
          by_cases h16 : (putsM a b).length ≤ 16
          · have HR : Hid _ := sadd_yes (b := b) HS.out (by unfold saddB; rw [HS.out, HOK.out]; simpa using h16)
            have hi16 : ((putsM a b).length : Int) ≤ 16 := by omega
            generalize putsM a b = O at *
            go_wp2_with fail
            go_ret3
            exact ⟨_, by rw [HR.out.2.1, HR.out.2.2]; rfl, by rw [HR.out.1]; exact ho, hB⟩
          · have HR : Hid _ := sadd_not (b := b) HS.out (by unfold saddB; rw [HS.out, HOK.out]; simpa using h16)
            have hi16 : (16 : Int) < ((putsM a b).length : Int) := by omega
            generalize putsM a b = O at *
            go_wp2_with fail
            refine (copy_any _ a _ (reads_kept hr hB) ha).mono ?_
            rintro e w7 ⟨x7, rfl, ho7, hb7⟩
            have hB7 := below_stepT hB hb7
            have ho8 := owns_base ho7 hB.size
            clear ho7 hb7
            go_wp2_with fail
            go_ret3
            exact ⟨_, by rw [HR.out.2.1, HR.out.2.2]; rfl, by rw [HR.out.1]; exact ho8, hB7⟩
end Go.Proofs.Ytlgchkmgbjcboaa
