/- IdGet: the first dash of a text, the program's strings.Cut; an id that may be, the program's and the model's. No condition but that a text is one. -/
import Derived.Test.YtkpfoocfjhilmaaDoorIdL
import Derived.Test.YtkpfoocfjhilmaaDoorIntB
import Derived.Lib.Walk
import Derived.Lib.Bytealg
import Derived.Lib.IndexLaws
import Derived.Laws.Rows
namespace Go.Proofs.YtkpfoocfjhilmaaDoor
open Go.RowKit
open num

theorem results_cell_tmp {P : Program} {fn : Func} {p u : Tmp} {ty : TypeId} (h : fn.results = #[.cell p ty, .tmp u]) (tmps : Array Value) (w : World) (g : Nat) (t : TypeId) (cs : Array Value) (fr : Nat × Nat) (d : TypeDesc)
    (hp : tmps.getD p undef = .pointer (some ⟨g, 0, none⟩)) (hg : w.heap[g]? = some (.cells cs t fr))
    (hu : P.underlying ty = some d) (hd : (match d with | .struct _ | .array _ _ => true | _ => false) = true) (hi : (P.info? ty).map (·.size) = some cs.size) :
    (results fn tmps).run P w = .ok (.tuple #[.agg cs, tmps.getD u undef]) w := by
  have hp' : tmps[p]?.getD undef = .pointer (some ⟨g, 0, none⟩) := by simpa using hp
  simp [results, h, hp', asAddr, run_loadVar_row w g t ty cs fr d hg hu hd hi]

/-! ### an id that may be -/
def idOkB (a b : Int) : Bool := inB a 0 1000000 && inB b 0 1000000000
set_option maxHeartbeats 400000 in
theorem timeOk_any (a : Int) (w : World) : Calls Tryd.prog 26 #[.int .i64 a] w fun e w' => e = .returned (.bool (inB a 0 1000000)) ∧ w = w' := by
  rcases Int.lt_or_le a 0 with h | h
  · have h1 : decide ((0 : Int) ≤ a) = false := by simp; omega
    have HF : Hid (inB a 0 1000000 = false) := by show _ = _; unfold inB; rw [h1]; rfl
    clear h
    go_enter Tryd.func26, Tryd.ntmps26
    go_wp2_with fail
    go_ret
    exact ⟨id_ret_bool HF.out.symm, rfl⟩
  · have h1 : decide ((0 : Int) ≤ a) = true := by simpa using h
    have HF : Hid (inB a 0 1000000 = decide (a ≤ 1000000)) := by show _ = _; unfold inB; rw [h1]; rfl
    clear h
    go_enter Tryd.func26, Tryd.ntmps26
    go_wp2_with fail
    go_ret
    exact ⟨id_ret_bool HF.out.symm, rfl⟩
set_option maxHeartbeats 1000000 in
theorem idOk_any (a b : Int) (w : World) : Calls Tryd.prog 14 #[.agg #[.int .i64 a, .int .i64 b]] w fun e w' => e = .returned (.bool (idOkB a b)) ∧ Below w.heap.size w w' := by
  have hB : ∀ A, Below w.heap.size w (w.alloc A) := fun A => (Below.refl _ w).alloc (Nat.le_refl _) A
  have HA : Hid (∀ x, inB a 0 1000000 = x → idOkB a b = (x && inB b 0 1000000000)) := fun x h => by unfold idOkB; rw [h]
  cases hx : inB a 0 1000000 with
  | false =>
    go_enter Tryd.func14, Tryd.ntmps14
    go_wp2_with (go_at_call 26; refine (timeOk_any _ _).mono ?_; rw [hx]; rintro e w' ⟨rfl, rfl⟩)
    go_ret
    exact ⟨id_ret_bool (HA.out _ hx).symm, hB _⟩
  | true =>
    rcases Int.lt_or_le b 0 with h | h
    · have h1 : decide ((0 : Int) ≤ b) = false := by simp; omega
      have HF : Hid (inB b 0 1000000000 = false) := by show _ = _; unfold inB; rw [h1]; rfl
      clear h
      go_enter Tryd.func14, Tryd.ntmps14
      go_wp2_with (go_at_call 26; refine (timeOk_any _ _).mono ?_; rw [hx]; rintro e w' ⟨rfl, rfl⟩)
      go_ret
      exact ⟨id_ret_bool (by rw [HA.out _ hx, HF.out]; rfl), hB _⟩
    · have h1 : decide ((0 : Int) ≤ b) = true := by simpa using h
      have HF : Hid (inB b 0 1000000000 = decide (b ≤ 1000000000)) := by show _ = _; unfold inB; rw [h1]; rfl
      clear h
      go_enter Tryd.func14, Tryd.ntmps14
      go_wp2_with (go_at_call 26; refine (timeOk_any _ _).mono ?_; rw [hx]; rintro e w' ⟨rfl, rfl⟩)
      go_ret
      exact ⟨id_ret_bool (by rw [HA.out _ hx, HF.out]; rfl), hB _⟩
set_option maxHeartbeats 1000000 in
theorem l9Id_any (a b : Int) (w : World) : Calls Tryd.prog 19 #[.agg #[.int .i64 a, .int .i64 b]] w fun e w' => e = .returned (.bool (idOkB a b)) ∧ Below w.heap.size w w' := by
  have hB : ∀ A, Below w.heap.size w (w.alloc A) := fun A => (Below.refl _ w).alloc (Nat.le_refl _) A
  have HA : Hid (∀ x, inB a 0 1000000 = x → idOkB a b = (x && inB b 0 1000000000)) := fun x h => by unfold idOkB; rw [h]
  cases hx : inB a 0 1000000 with
  | false =>
    go_enter Tryd.func19, Tryd.ntmps19
    go_wp2_with (go_at_call 33; refine (l1In_any a 0 1000000 _).mono ?_; rw [hx]; rintro e w' ⟨rfl, rfl⟩)
    go_ret
    exact ⟨id_ret_bool (HA.out _ hx).symm, hB _⟩
  | true =>
    go_enter Tryd.func19, Tryd.ntmps19
    go_wp2_with (first | (go_at_call_of 33 (Value.int IntKind.i64 a); refine (l1In_any a 0 1000000 _).mono ?_; rw [hx]; rintro e w' ⟨rfl, rfl⟩) | (go_at_call_of 33 (Value.int IntKind.i64 b); refine (l1In_any b 0 1000000000 _).mono ?_; rintro e w' ⟨rfl, rfl⟩))
    go_ret
    exact ⟨id_ret_bool (by rw [HA.out _ hx]; rfl), hB _⟩

/-! ### the first dash -/
theorem ixByte_any (s : ByteArray) (c : Int) (w : World) :
    Calls Tryd.prog 42 #[.string s, .int .u8 c] w fun e w' => e = .returned (.int .i64 (Lib.indexByte s.data.toList c.toNat.toUInt8)) ∧ w = w' := by
  go_enter Tryd.func42, Tryd.ntmps42
  go_wp2
  rw [run_callFunc_extern Tryd.func52 (by kernel_rfl) (by kernel_rfl) (by kernel_rfl) (e := Extern.BytealgIndexByte.indexByte) (by kernel_rfl), Lib.run_indexByteString]
  simp only [Result.andThen]
  rw [Oper.upon_value]
  go_wp2
  go_ret
  exact ⟨rfl, rfl⟩
theorem dash_alone {s t : ByteArray} (h : (t.toList == s.toList) = true) (ht : t.size = 1) (h0 : 0 < t.size) (hc : ((t[0].toNat : Nat) : Int) = 45) : Lib.indexByte s.data.toList 45 = 0 := by
  have e : t.data.toList = s.data.toList := by
    have := beq_iff_eq.1 h
    rwa [Lib.toList_data, Lib.toList_data] at this
  rw [← e]
  match hl : t.data.toList with
  | [] => have := congrArg List.length hl; simp at this; rw [this] at ht; simp at ht
  | c :: r =>
    have hx : t[0] = c := by
      have : t.data.toList[0]? = some c := by rw [hl]; rfl
      rw [List.getElem?_eq_getElem (by simpa using h0)] at this
      exact Option.some.inj this
    rw [hx] at hc
    unfold Lib.indexByte
    rw [if_pos]
    rw [beq_iff_eq]
    apply UInt8.toNat_inj.1
    have : c.toNat = 45 := by omega
    rw [this]; rfl
set_option maxHeartbeats 1000000 in
theorem index_dash (s t : ByteArray) (w : World) (ht : t.size = 1) (h0 : ∀ h : 0 < t.size, ((t[0].toNat : Nat) : Int) = 45) :
    Calls Tryd.prog 35 #[.string s, .string t] w fun e w' => e = .returned (.int .i64 (Lib.indexByte s.data.toList 45)) ∧ w = w' := by
  have hlt : 0 < t.size := by omega
  have hc := h0 hlt
  have hz : ((t.size : Int) == 0) = false := beq_eq_false_iff_ne.2 (by omega)
  have ho : ((t.size : Int) == 1) = true := beq_iff_eq.2 (by omega)
  clear h0
  go_enter Tryd.func35, Tryd.ntmps35
  go_wp2_with (go_at_call 42; refine (ixByte_any _ _ _).mono ?_; rintro e w' ⟨rfl, rfl⟩)
  · go_ret
    exact ⟨id_ret_int (dash_alone ‹_› ht hlt hc).symm, rfl⟩
  · go_ret
    exact ⟨id_ret_int rfl, rfl⟩
set_option maxHeartbeats 1000000 in
theorem liteCut_some (s t : ByteArray) (k : Nat) (w : World) (ht : t.size = 1) (h0 : ∀ h : 0 < t.size, ((t[0].toNat : Nat) : Int) = 45) (hk : Lib.indexByte s.data.toList 45 = (k : Int)) (hlt : k < s.size) (hs : s.size ≤ maxLen) :
    Calls Tryd.prog 28 #[.string s, .string t] w fun e w' => e = .returned (.tuple #[.string (s.extract 0 k), .string (s.extract (k + 1) s.size), .bool true]) ∧ Below w.heap.size w w' := by
  unfold maxLen at hs
  have HI : Hid (∀ h : 0 < t.size, ((t[0].toNat : Nat) : Int) = 45) := h0
  have HE : Hid (Lib.indexByte s.data.toList 45 = (k : Int)) := hk
  have hz : (t.size : Int) = 1 := by omega
  clear h0 hk
  go_enter Tryd.func28, Tryd.ntmps28
  go_wp2_with (go_at_call 35; refine (index_dash s t _ ht HI.out).mono ?_; rw [HE.out]; rintro e w' ⟨rfl, rfl⟩)
  go_region
  go_wp2_with fail
  go_ret3
  exact ⟨rfl, (Below.refl _ _).drew⟩
set_option maxHeartbeats 1000000 in
theorem liteCut_none (s t : ByteArray) (w : World) (ht : t.size = 1) (h0 : ∀ h : 0 < t.size, ((t[0].toNat : Nat) : Int) = 45) (hk : Lib.indexByte s.data.toList 45 = -1) :
    Calls Tryd.prog 28 #[.string s, .string t] w fun e w' => e = .returned (.tuple #[.string s, .string ByteArray.empty, .bool false]) ∧ w = w' := by
  have HI : Hid (∀ h : 0 < t.size, ((t[0].toNat : Nat) : Int) = 45) := h0
  have HE : Hid (Lib.indexByte s.data.toList 45 = -1) := hk
  clear h0 hk
  go_enter Tryd.func28, Tryd.ntmps28
  go_wp2_with (go_at_call 35; refine (index_dash s t _ ht HI.out).mono ?_; rw [HE.out]; rintro e w' ⟨rfl, rfl⟩)
  go_ret3
  exact ⟨rfl, rfl⟩
theorem cut_some (s t : ByteArray) (k : Nat) (w : World) (ht : t.size = 1) (h0 : ∀ h : 0 < t.size, ((t[0].toNat : Nat) : Int) = 45) (hk : Lib.indexByte s.data.toList 45 = (k : Int)) (hlt : k < s.size) (hs : s.size ≤ maxLen) :
    Calls Tryd.prog 16 #[.string s, .string t] w fun e w' => e = .returned (.tuple #[.string (s.extract 0 k), .string (s.extract (k + 1) s.size), .bool true]) ∧ Below w.heap.size w w' := by
  have HH : Hid (∀ w, Calls Tryd.prog 28 #[.string s, .string t] w fun e w' => e = .returned (.tuple #[.string (s.extract 0 k), .string (s.extract (k + 1) s.size), .bool true]) ∧ Below w.heap.size w w') := fun w => liteCut_some s t k w ht h0 hk hlt hs
  clear h0 hk hlt hs ht
  go_enter Tryd.func16, Tryd.ntmps16
  go_wp2_with fail
  refine (HH.out _).mono ?_
  rintro e w' ⟨rfl, hb⟩
  go_wp2_with fail
  go_ret3
  exact ⟨rfl, hb⟩
theorem cut_none (s t : ByteArray) (w : World) (ht : t.size = 1) (h0 : ∀ h : 0 < t.size, ((t[0].toNat : Nat) : Int) = 45) (hk : Lib.indexByte s.data.toList 45 = -1) :
    Calls Tryd.prog 16 #[.string s, .string t] w fun e w' => e = .returned (.tuple #[.string s, .string ByteArray.empty, .bool false]) ∧ w = w' := by
  have HH : Hid (∀ w, Calls Tryd.prog 28 #[.string s, .string t] w fun e w' => e = .returned (.tuple #[.string s, .string ByteArray.empty, .bool false]) ∧ w = w') := fun w => liteCut_none s t w ht h0 hk
  clear h0 hk ht
  go_enter Tryd.func16, Tryd.ntmps16
  go_wp2_with fail
  refine (HH.out _).mono ?_
  rintro e w' ⟨rfl, rfl⟩
  go_wp2_with fail
  go_ret3
  exact ⟨rfl, rfl⟩

/-! ### the two numbers -/
theorem figs_signed {l : List UInt8} (h : signed l = true) : figs l = -1 := by
  unfold figs
  rw [if_neg]
  intro hh
  match l, h with
  | c :: t, h =>
    simp [signed] at h
    subst h
    have := hh.1
    simp [isDig] at this
theorem figs_int (l : List UInt8) (hi : Int) (hhi : hi ≤ 1000000000) : inB (figs l) 0 hi = (intB l && inB (intV l) 0 hi) := by
  cases hs : signed l with
  | false =>
    have hB := plain_B (l := l) (.inl hs)
    have hV := plain_V (l := l) (.inl hs)
    cases hb : intB l with
    | true =>
      rw [hb, if_pos rfl] at hV
      rw [hV, Bool.true_and]
    | false =>
      rw [hb] at hB
      rw [Bool.false_and]
      unfold inB at hB ⊢
      simp at hB ⊢
      intro h; have := hB h; omega
  | true =>
    rw [figs_signed hs]
    cases hb : intB l with
    | false => rfl
    | true =>
      have hV := signed_V hs
      rw [hb, if_pos rfl] at hV
      have hB := signed_B hs
      rw [hb] at hB
      rw [Bool.true_and, hV]
      unfold inB at hB ⊢
      simp at hB ⊢
      omega
def onlyIf (b : Bool) (x : Int) : Int := if b = true then x else 0
theorem onlyIf_t (x : Int) : onlyIf true x = x := rfl
theorem onlyIf_f (x : Int) : onlyIf false x = 0 := rfl
theorem ok_l {l m : List UInt8} (h : intB l = false) : idOkB (figs l) (figs m) = false := by
  unfold idOkB; rw [figs_int l 1000000 (by omega), h]; rfl
theorem ok_m {l m : List UInt8} (h : intB m = false) : idOkB (figs l) (figs m) = false := by
  unfold idOkB; rw [figs_int m 1000000000 (by omega), h]; simp
theorem ok_b {l m : List UInt8} (hl : intB l = true) (hm : intB m = true) : idOkB (figs l) (figs m) = idOkB (intV l) (intV m) := by
  unfold idOkB; rw [figs_int l 1000000 (by omega), figs_int m 1000000000 (by omega), hl, hm, Bool.true_and, Bool.true_and]
theorem val_b {l : List UInt8} (hl : intB l = true) (h0 : inB (intV l) 0 1000000000 = true) : figs l = intV l := by
  cases hs : signed l with
  | false => have hV := plain_V (l := l) (.inl hs); rw [hl, if_pos rfl] at hV; exact hV.symm
  | true =>
    have hV := signed_V hs
    rw [hl, if_pos rfl] at hV
    have hB := signed_B hs
    rw [hl] at hB
    rw [hV] at h0
    unfold inB at hB h0
    simp at hB h0
    omega
end Go.Proofs.YtkpfoocfjhilmaaDoor
