/- Clients that have nothing: alike, marked, held. What a new server is, the program's and the model's. -/
import Derived.Test.YtppggedafdfjoaaRows
import Derived.Test.YtppggedafdfjoaaRz
import Derived.Test.YtppggedafdfjoaaStrs
import Derived.Deep.RegionHeld3
import Derived.OwnWalk
namespace Go.Proofs.Ytppggedafdfjoaa
open Go.RowKit

/-- a client without lists -/
def clC (x : Bool × Bool × Bool) : List Value := [.bool x.1, .bool x.2.1, .slice none 0 0, .slice none 0 0, .bool x.2.2, .slice none 0 0]
def clZ : Bool × Bool × Bool := (false, false, false)
def clM : Bool × Bool × Bool := (false, false, true)
theorem clC_len (x : Bool × Bool × Bool) : (clC x).length = 6 := rfl
theorem clC_one (x : Bool × Bool × Bool) : ∀ u ∈ clC x, u.oneCell' = true := by
  intro u hu
  unfold clC at hu
  simp only [List.mem_cons, List.not_mem_nil, or_false] at hu
  rcases hu with rfl | rfl | rfl | rfl | rfl | rfl <;> rfl
abbrev ClReads (w : World) (v : Value) (l : List (Bool × Bool × Bool)) : Prop := ReadsR clC 6 w v l
abbrev ClOwns (w : World) (base : Nat) (v : Value) (l : List (Bool × Bool × Bool)) : Prop := OwnsR clC 6 36 w base v l
theorem clInfo : (Try.prog.info? 36).map (fun i => (i.zero, i.size, i.bytes)) = some (some (.agg #[.bool false, .bool false, .slice none 0 0, .slice none 0 0, .bool false, .slice none 0 0]), 6, 88) := by kernel_rfl

/-! ### what is nil -/
set_option maxHeartbeats 400000 in
theorem eqEntryS_nil (w : World) : Calls Try.prog 16 #[.slice none 0 0, .slice none 0 0] w fun e w' => e = .returned (.bool true) ∧ w = w' := by
  go_enter Try.func16, Try.ntmps16
  go_wp2_with fail
  refine wp_loop_rounds 1 ?_
  rw [rounds_succ]
  go_wp2_with fail
  go_ret
  exact ⟨rfl, rfl⟩
set_option maxHeartbeats 400000 in
theorem eqStringSS_nil (w : World) : Calls Try.prog 25 #[.slice none 0 0, .slice none 0 0] w fun e w' => e = .returned (.bool true) ∧ w = w' := by
  go_enter Try.func25, Try.ntmps25
  go_wp2_with fail
  refine wp_loop_rounds 1 ?_
  rw [rounds_succ]
  go_wp2_with fail
  go_ret
  exact ⟨rfl, rfl⟩
set_option maxHeartbeats 400000 in
theorem eqStringS_nil (w : World) : Calls Try.prog 26 #[.slice none 0 0, .slice none 0 0] w fun e w' => e = .returned (.bool true) ∧ w = w' := by
  go_enter Try.func26, Try.ntmps26
  go_wp2_with fail
  refine wp_loop_rounds 1 ?_
  rw [rounds_succ]
  go_wp2_with fail
  go_ret
  exact ⟨rfl, rfl⟩
set_option maxHeartbeats 400000 in
theorem markEntryS_nil (k : Int) (w : World) : Calls Try.prog 18 #[.slice none 0 0, .int .i64 k] w fun e w' => e = .returned (.int .i64 k) ∧ w = w' := by
  go_enter Try.func18, Try.ntmps18
  go_wp2_with fail
  refine wp_loop_rounds 1 ?_
  rw [rounds_succ]
  go_wp2_with fail
  go_ret
  exact ⟨rfl, rfl⟩
set_option maxHeartbeats 400000 in
theorem markStringSS_nil (k : Int) (w : World) : Calls Try.prog 19 #[.slice none 0 0, .int .i64 k] w fun e w' => e = .returned (.int .i64 k) ∧ w = w' := by
  go_enter Try.func19, Try.ntmps19
  go_wp2_with fail
  refine wp_loop_rounds 1 ?_
  rw [rounds_succ]
  go_wp2_with fail
  go_ret
  exact ⟨rfl, rfl⟩
set_option maxHeartbeats 400000 in
theorem markStringS_nil (k : Int) (w : World) : Calls Try.prog 20 #[.slice none 0 0, .int .i64 k] w fun e w' => e = .returned (.int .i64 k) ∧ w = w' := by
  go_enter Try.func20, Try.ntmps20
  go_wp2_with fail
  refine wp_loop_rounds 1 ?_
  rw [rounds_succ]
  go_wp2_with fail
  go_ret
  exact ⟨rfl, rfl⟩
set_option maxHeartbeats 400000 in
theorem heldEntryS_nil (k : Int) (w : World) : Calls Try.prog 21 #[.slice none 0 0, .int .i64 k] w fun e w' => e = .returned (.int .i64 k) ∧ w = w' := by
  go_enter Try.func21, Try.ntmps21
  go_wp2_with fail
  refine wp_loop_rounds 1 ?_
  rw [rounds_succ]
  go_wp2_with fail
  go_ret
  exact ⟨rfl, rfl⟩
set_option maxHeartbeats 400000 in
theorem heldStringSS_nil (k : Int) (w : World) : Calls Try.prog 22 #[.slice none 0 0, .int .i64 k] w fun e w' => e = .returned (.int .i64 k) ∧ w = w' := by
  go_enter Try.func22, Try.ntmps22
  go_wp2_with fail
  refine wp_loop_rounds 1 ?_
  rw [rounds_succ]
  go_wp2_with fail
  go_ret
  exact ⟨rfl, rfl⟩
set_option maxHeartbeats 400000 in
theorem heldStringS_nil (k : Int) (w : World) : Calls Try.prog 23 #[.slice none 0 0, .int .i64 k] w fun e w' => e = .returned (.int .i64 k) ∧ w = w' := by
  go_enter Try.func23, Try.ntmps23
  go_wp2_with fail
  refine wp_loop_rounds 1 ?_
  rw [rounds_succ]
  go_wp2_with fail
  go_ret
  exact ⟨rfl, rfl⟩
set_option maxHeartbeats 400000 in
theorem eqBase_nil (w : World) : Calls Try.prog 10 #[.agg #[.int .i64 0, .slice none 0 0], .agg #[.int .i64 0, .slice none 0 0]] w fun e w' => e = .returned (.bool true) ∧ Below w.heap.size w w' := by
  go_enter Try.func10, Try.ntmps10
  go_wp2_with (go_at_call 16; refine (eqEntryS_nil _).mono ?_; rintro e w' ⟨rfl, rfl⟩)
  go_ret
  exact ⟨rfl, ((Below.refl _ w).alloc (Nat.le_refl _) _).alloc (by simp) _⟩
set_option maxHeartbeats 400000 in
theorem markBase_nil (k : Int) (w : World) : Calls Try.prog 12 #[.agg #[.int .i64 0, .slice none 0 0], .int .i64 k] w fun e w' => e = .returned (.int .i64 k) ∧ Below w.heap.size w w' := by
  go_enter Try.func12, Try.ntmps12
  go_wp2_with (go_at_call 18; refine (markEntryS_nil _ _).mono ?_; rintro e w' ⟨rfl, rfl⟩)
  go_ret
  exact ⟨rfl, (Below.refl _ w).alloc (Nat.le_refl _) _⟩
set_option maxHeartbeats 400000 in
theorem heldBase_nil (k : Int) (w : World) (hk : 0 ≤ k) : Calls Try.prog 14 #[.agg #[.int .i64 0, .slice none 0 0], .int .i64 k] w fun e w' => e = .returned (.int .i64 k) ∧ Below w.heap.size w w' := by
  go_enter Try.func14, Try.ntmps14
  go_wp2_with (go_at_call 21; refine (heldEntryS_nil _ _).mono ?_; rintro e w' ⟨rfl, rfl⟩)
  go_ret
  exact ⟨rfl, (Below.refl _ w).alloc (Nat.le_refl _) _⟩
set_option maxHeartbeats 1000000 in
theorem eqClient_nil (w : World) : Calls Try.prog 17 #[.agg #[.bool false, .bool false, .slice none 0 0, .slice none 0 0, .bool false, .slice none 0 0], .agg #[.bool false, .bool false, .slice none 0 0, .slice none 0 0, .bool false, .slice none 0 0]] w fun e w' => e = .returned (.bool true) ∧ Below w.heap.size w w' := by
  go_enter Try.func17, Try.ntmps17
  go_wp2_with (first | (go_at_call 25; refine (eqStringSS_nil _).mono ?_; rintro e w' ⟨rfl, rfl⟩) | (go_at_call 26; refine (eqStringS_nil _).mono ?_; rintro e w' ⟨rfl, rfl⟩))
  go_ret
  exact ⟨rfl, ((Below.refl _ w).alloc (Nat.le_refl _) _).alloc (by simp) _⟩

/-- n clients that are x, in a row -/
theorem cl_some {w : World} {ao : Option Addr} {n cap : Nat} {x : Bool × Bool × Bool} (h : ClReads w (.slice ao n cap) (List.replicate n x)) {k : Nat} (hk : k < n) :
    ∃ b off, ao = some ⟨b, off, none⟩ ∧ b < w.heap.size ∧ n ≤ cap ∧ cap ≤ maxLen ∧ w.cell? ⟨b, off + k * 6, none⟩ = some (.bool x.1) ∧ w.cell? ⟨b, off + k * 6 + 1, none⟩ = some (.bool x.2.1) ∧ w.cell? ⟨b, off + k * 6 + 2, none⟩ = some (.slice none 0 0) ∧ w.cell? ⟨b, off + k * 6 + 3, none⟩ = some (.slice none 0 0) ∧ w.cell? ⟨b, off + k * 6 + 4, none⟩ = some (.bool x.2.2) ∧ w.cell? ⟨b, off + k * 6 + 5, none⟩ = some (.slice none 0 0) := by
  rcases h with ⟨h0, _⟩ | ⟨_, b, off, cap', hv, hb, hnc, hcm, hc⟩
  · have := congrArg List.length h0; simp at this; omega
  · simp only [Value.slice.injEq, List.length_replicate, true_and] at hv
    obtain ⟨h1, rfl⟩ := hv
    rw [List.length_replicate] at hnc
    have hx := hc k x (by rw [List.getElem?_replicate, if_pos hk])
    exact ⟨b, off, h1, hb, hnc, hcm, hx 0 _ rfl, hx 1 _ rfl, hx 2 _ rfl, hx 3 _ rfl, hx 4 _ rfl, hx 5 _ rfl⟩
theorem cl_shape {w : World} {v : Value} {n : Nat} {x : Bool × Bool × Bool} (h : ClReads w v (List.replicate n x)) : ∃ ao cap, v = .slice ao n cap := by
  have := readsR_shape h
  rwa [List.length_replicate] at this

theorem heldTr {wr w2 w3 : World} {a b c d e f g h i j k l : Prop} (h3 : Below w2.heap.size w2 w3) (hh : a ∧ b ∧ c ∧ d ∧ e ∧ f ∧ g ∧ h ∧ i ∧ j ∧ k ∧ l ∧ Below wr.heap.size wr w2) : Below wr.heap.size wr w3 := hh.2.2.2.2.2.2.2.2.2.2.2.2.trans (h3.mono hh.2.2.2.2.2.2.2.2.2.2.2.2.size)
set_option maxHeartbeats 2000000 in
theorem eqClientS_any (v u : Value) (n : Nat) (w : World) (hr : ClReads w v (List.replicate n clZ)) (hq : ClReads w u (List.replicate n clZ)) (hn : n ≤ 3) :
    Calls Try.prog 11 #[v, u] w fun e w' => e = .returned (.bool true) ∧ Below w.heap.size w w' := by
  obtain ⟨ao, cap, rfl⟩ := cl_shape hr
  obtain ⟨ao2, cap2, rfl⟩ := cl_shape hq
  go_enter Try.func11, Try.ntmps11
  go_wp2_with fail
  go_loopw [5] (fun i wr => ∃ k : Nat, k ≤ n ∧ i = .int .i64 k ∧ Below w.heap.size w wr) (fun i _ => n - (intOf i).toNat)
  case atStart => exact ⟨0, Nat.zero_le _, rfl, Below.refl _ _⟩
  case round =>
    obtain ⟨k, hk, rfl, hB⟩ := hrel
    by_cases hlt : k < n
    · obtain ⟨b, off, rfl, hb, _, _, a0, a1, a2, a3, a4, a5⟩ := cl_some (readsR_kept hr hB) hlt
      obtain ⟨b2, off2, rfl, hb2, _, _, d0, d1, d2, d3, d4, d5⟩ := cl_some (readsR_kept hq hB) hlt
      have hk1 : (k : Int) < (n : Int) := by omega
      have hsz := hB.size
      have HK : Hid (∀ w', Below wr.heap.size wr w' → (w'.cell? ⟨b, off + k * 6, none⟩ = some (.bool false) ∧ w'.cell? ⟨b, off + k * 6 + 1, none⟩ = some (.bool false) ∧ w'.cell? ⟨b, off + k * 6 + 2, none⟩ = some (.slice none 0 0) ∧ w'.cell? ⟨b, off + k * 6 + 3, none⟩ = some (.slice none 0 0) ∧ w'.cell? ⟨b, off + k * 6 + 4, none⟩ = some (.bool false) ∧ w'.cell? ⟨b, off + k * 6 + 5, none⟩ = some (.slice none 0 0) ∧ w'.cell? ⟨b2, off2 + k * 6, none⟩ = some (.bool false) ∧ w'.cell? ⟨b2, off2 + k * 6 + 1, none⟩ = some (.bool false) ∧ w'.cell? ⟨b2, off2 + k * 6 + 2, none⟩ = some (.slice none 0 0) ∧ w'.cell? ⟨b2, off2 + k * 6 + 3, none⟩ = some (.slice none 0 0) ∧ w'.cell? ⟨b2, off2 + k * 6 + 4, none⟩ = some (.bool false) ∧ w'.cell? ⟨b2, off2 + k * 6 + 5, none⟩ = some (.slice none 0 0) ∧ Below wr.heap.size wr w')) := fun w' h =>
        ⟨(h.cell (p := ⟨b, _, none⟩) hb).trans a0, (h.cell (p := ⟨b, _, none⟩) hb).trans a1, (h.cell (p := ⟨b, _, none⟩) hb).trans a2, (h.cell (p := ⟨b, _, none⟩) hb).trans a3, (h.cell (p := ⟨b, _, none⟩) hb).trans a4, (h.cell (p := ⟨b, _, none⟩) hb).trans a5, (h.cell (p := ⟨b2, _, none⟩) hb2).trans d0, (h.cell (p := ⟨b2, _, none⟩) hb2).trans d1, (h.cell (p := ⟨b2, _, none⟩) hb2).trans d2, (h.cell (p := ⟨b2, _, none⟩) hb2).trans d3, (h.cell (p := ⟨b2, _, none⟩) hb2).trans d4, (h.cell (p := ⟨b2, _, none⟩) hb2).trans d5, h⟩
      clear a0 a1 a2 a3 a4 a5 d0 d1 d2 d3 d4 d5
      go_wp2_with fail
      go_region_held3 (fun w' => w'.cell? ⟨b, off + k * 6, none⟩ = some (.bool false) ∧ w'.cell? ⟨b, off + k * 6 + 1, none⟩ = some (.bool false) ∧ w'.cell? ⟨b, off + k * 6 + 2, none⟩ = some (.slice none 0 0) ∧ w'.cell? ⟨b, off + k * 6 + 3, none⟩ = some (.slice none 0 0) ∧ w'.cell? ⟨b, off + k * 6 + 4, none⟩ = some (.bool false) ∧ w'.cell? ⟨b, off + k * 6 + 5, none⟩ = some (.slice none 0 0) ∧ w'.cell? ⟨b2, off2 + k * 6, none⟩ = some (.bool false) ∧ w'.cell? ⟨b2, off2 + k * 6 + 1, none⟩ = some (.bool false) ∧ w'.cell? ⟨b2, off2 + k * 6 + 2, none⟩ = some (.slice none 0 0) ∧ w'.cell? ⟨b2, off2 + k * 6 + 3, none⟩ = some (.slice none 0 0) ∧ w'.cell? ⟨b2, off2 + k * 6 + 4, none⟩ = some (.bool false) ∧ w'.cell? ⟨b2, off2 + k * 6 + 5, none⟩ = some (.slice none 0 0) ∧ Below wr.heap.size wr w') (first | exact HK.out _ (Below.refl _ _).drew | assumption | go_keep) (first
          | (go_at_call 17; refine (eqClient_nil _).mono ?_; rintro e w3 ⟨rfl, hb3⟩; have hk3 := HK.out _ (heldTr hb3 ‹_›)))
      have hB3 : Below w.heap.size w w3 := hB.trans (hk3.2.2.2.2.2.2.2.2.2.2.2.2.mono hB.size)
      clear hk3 hb3 hB HK
      go_wp2_with fail
      go_roundw
      case rel => exact ⟨k + 1, hlt, by go_num, hB3⟩
      case measure => simp [intOf]; omega
    · obtain rfl : k = n := by omega
      go_wp2_with fail
      go_ret
      exact ⟨rfl, hB⟩
end Go.Proofs.Ytppggedafdfjoaa
