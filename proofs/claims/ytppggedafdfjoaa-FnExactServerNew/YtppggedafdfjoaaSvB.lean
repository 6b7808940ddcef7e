/- Clients that have nothing: marked, held. -/
import Derived.Test.YtppggedafdfjoaaSvA
namespace Go.Proofs.Ytppggedafdfjoaa
open Go.RowKit

/-- the first j are marked -/
def clPart (n j : Nat) : List (Bool × Bool × Bool) := List.replicate j clM ++ List.replicate (n - j) clZ
theorem clPart_len {n j : Nat} (h : j ≤ n) : (clPart n j).length = n := by simp [clPart]; omega
theorem clPart_at {n j : Nat} (h : j < n) : (clPart n j)[j]? = some clZ := by
  unfold clPart; rw [List.getElem?_append_right (by simp), List.getElem?_replicate, if_pos (by simp; omega)]
theorem clPart_set {n j : Nat} (h : j < n) : (clPart n j).set j clM = clPart n (j + 1) := by
  unfold clPart
  have e : n - j = (n - (j + 1)) + 1 := by omega
  rw [List.set_append_right _ _ (by simp), e, List.replicate_succ, List.length_replicate, Nat.sub_self, List.set_cons_zero, List.replicate_succ', List.append_assoc]
  rfl
theorem mod_facts {j : Nat} {K : Int} (h : K = 1 + 3 * (j : Int)) : (K % 3 == 0) = false ∧ ((K + 1) % 3 == 0) = false ∧ ((K + 1 + 1) % 3 == 0) = true := by
  refine ⟨?_, ?_, ?_⟩
  · simp; omega
  · simp; omega
  · simp; omega

theorem set_same {α : Type} {l : List α} {k : Nat} {x : α} (h : l[k]? = some x) : l.set k x = l := by
  obtain ⟨hk, rfl⟩ := List.getElem?_eq_some_iff.1 h
  exact List.set_getElem_self hk
theorem clStored {w : World} {base g cap k : Nat} {l : List (Bool × Bool × Bool)} (h : ClOwns w base (.slice (some ⟨g, 0, none⟩) l.length cap) l) (hk : l[k]? = some clZ) :
    ClOwns (((w.setCell ⟨g, k * 6, none⟩ (.bool false)).setCell ⟨g, k * 6 + 1, none⟩ (.bool false)).setCell ⟨g, k * 6 + 4, none⟩ (.bool true)) base (.slice (some ⟨g, 0, none⟩) l.length cap) (l.set k clM) ∧ w.grownBy (((w.setCell ⟨g, k * 6, none⟩ (.bool false)).setCell ⟨g, k * 6 + 1, none⟩ (.bool false)).setCell ⟨g, k * 6 + 4, none⟩ (.bool true)) (some g) := by
  have h1 := ownsR_stored clC_len h k 0 clZ clZ (.bool false) hk (by omega) rfl
  rw [set_same hk] at h1
  have h2 := ownsR_stored clC_len h1.1 k 1 clZ clZ (.bool false) hk (by omega) rfl
  rw [set_same hk] at h2
  have h3 := ownsR_stored clC_len h2.1 k 4 clZ clM (.bool true) hk (by omega) rfl
  exact ⟨h3.1, grown_two (grown_two h1.2 h2.2) h3.2⟩

set_option maxHeartbeats 2000000 in
theorem markClientS_any (v : Value) (n base : Nat) (w : World) (ho : ClOwns w base v (List.replicate n clZ)) (h0 : 0 < n) (hn : n ≤ 3) :
    Calls Try.prog 13 #[v, .int .i64 1] w fun e w' => e = .returned (.int .i64 (1 + 3 * (n : Int))) ∧ ClOwns w' base v (List.replicate n clM) ∧ w.grownBy w' v.ownBlock := by
  obtain ⟨g, cap, rfl⟩ : ∃ g cap, v = .slice (some ⟨g, 0, none⟩) n cap := by
    rcases ownsR_form ho with ⟨h, _⟩ | ⟨_, g, cap, h⟩
    · have := congrArg List.length h; simp at this; omega
    · rw [List.length_replicate] at h; exact ⟨g, cap, h⟩
  go_enter Try.func13, Try.ntmps13
  go_wp2_with fail
  go_loopw [1, 5] (fun c i wr => ∃ (j : Nat) (K : Int), j ≤ n ∧ i = .int .i64 j ∧ c = .int .i64 K ∧ Hid (K = 1 + 3 * (j : Int)) ∧ ClOwns wr base (.slice (some ⟨g, 0, none⟩) n cap) (clPart n j) ∧ w.grownBy wr (some g)) (fun _ i _ => n - (intOf i).toNat)
  case atStart => exact ⟨0, 1, Nat.zero_le _, rfl, rfl, (by simp : (1 : Int) = 1 + 3 * ((0 : Nat) : Int)), by simpa [clPart] using ho, World.grownBy.refl _ _⟩
  case round =>
    obtain ⟨j, K, hj, rfl, rfl, HK, ho2, hg2⟩ := hrel
    clear ho
    by_cases hlt : j < n
    · obtain ⟨m0, m1, m2⟩ := mod_facts HK.out
      have hK0 : 0 ≤ K := by have := HK.out; omega
      have hK1 : K ≤ 100 := by have := HK.out; omega
      have ho3 : ClOwns wr base (.slice (some ⟨g, 0, none⟩) (clPart n j).length cap) (clPart n j) := by rw [clPart_len hj]; exact ho2
      have d0 : wr.cell? ⟨g, j * 6, none⟩ = _ := cellR clC_len ho3 (clPart_at hlt) 0 _ rfl
      have d1 : wr.cell? ⟨g, j * 6 + 1, none⟩ = _ := cellR clC_len ho3 (clPart_at hlt) 1 _ rfl
      have d2 : wr.cell? ⟨g, j * 6 + 2, none⟩ = _ := cellR clC_len ho3 (clPart_at hlt) 2 _ rfl
      have d3 : wr.cell? ⟨g, j * 6 + 3, none⟩ = _ := cellR clC_len ho3 (clPart_at hlt) 3 _ rfl
      have d4 : wr.cell? ⟨g, j * 6 + 4, none⟩ = _ := cellR clC_len ho3 (clPart_at hlt) 4 _ rfl
      have d5 : wr.cell? ⟨g, j * 6 + 5, none⟩ = _ := cellR clC_len ho3 (clPart_at hlt) 5 _ rfl
      have f0 := World.ownsRow.frozenAt ho3 (j * 6)
      have f1 := World.ownsRow.frozenAt ho3 (j * 6 + 1)
      have f4 := World.ownsRow.frozenAt ho3 (j * 6 + 4)
      have HO : Hid _ := ho3
      have hk1 : (j : Int) < (n : Int) := by omega
      clear ho2 ho3
      go_wp2_with (first | (go_at_call 19; refine (markStringSS_nil _ _).mono ?_; rintro e w' ⟨rfl, rfl⟩) | (go_at_call 20; refine (markStringS_nil _ _).mono ?_; rintro e w' ⟨rfl, rfl⟩))
      go_roundw
      case rel =>
        have q := clStored HO.out (clPart_at hlt)
        rw [clPart_set hlt, clPart_len hj] at q
        exact ⟨j + 1, _, hlt, by go_num, rfl, (by have := HK.out; simp; omega : K + 1 + 1 + 1 = 1 + 3 * ((j + 1 : Nat) : Int)), q.1, grown_two hg2 q.2⟩
      case measure => simp [intOf]; omega
    · obtain rfl : j = n := by omega
      go_wp2_with fail
      go_ret
      exact ⟨ret_int' HK.out, by simpa [clPart] using ho2, hg2⟩

set_option maxHeartbeats 2000000 in
theorem heldClientS_any (v : Value) (n : Nat) (w : World) (hr : ClReads w v (List.replicate n clM)) (hn : n ≤ 3) :
    Calls Try.prog 15 #[v, .int .i64 1] w fun e w' => e = .returned (.int .i64 (1 + 3 * (n : Int))) ∧ w = w' := by
  obtain ⟨ao, cap, rfl⟩ := cl_shape hr
  go_enter Try.func15, Try.ntmps15
  go_wp2_with fail
  go_loop [1, 5] (fun c i => ∃ (j : Nat) (K : Int), j ≤ n ∧ i = .int .i64 j ∧ c = .int .i64 K ∧ Hid (K = 1 + 3 * (j : Int))) (fun _ i => n - (intOf i).toNat)
  case atStart => exact ⟨0, 1, Nat.zero_le _, rfl, rfl, (by simp : (1 : Int) = 1 + 3 * ((0 : Nat) : Int))⟩
  case round =>
    obtain ⟨j, K, hj, rfl, rfl, HK⟩ := hrel
    by_cases hlt : j < n
    · obtain ⟨m0, m1, m2⟩ := mod_facts HK.out
      have hK0 : 0 ≤ K := by have := HK.out; omega
      have hK1 : K ≤ 100 := by have := HK.out; omega
      obtain ⟨b, off, rfl, hb, _, _, d0, d1, d2, d3, d4, d5⟩ := cl_some hr hlt
      have hk1 : (j : Int) < (n : Int) := by omega
      clear hr
      go_wp2_with (first | (go_at_call 22; refine (heldStringSS_nil _ _).mono ?_; rintro e w' ⟨rfl, rfl⟩) | (go_at_call 23; refine (heldStringS_nil _ _).mono ?_; rintro e w' ⟨rfl, rfl⟩))
      go_round
      case rel => exact ⟨j + 1, _, hlt, by go_num, rfl, (by have := HK.out; simp; omega : K + 1 + 1 + 1 = 1 + 3 * ((j + 1 : Nat) : Int))⟩
      case measure => simp [intOf]; omega
    · obtain rfl : j = n := by omega
      go_wp2_with fail
      go_ret
      exact ⟨ret_int' HK.out, rfl⟩
end Go.Proofs.Ytppggedafdfjoaa
