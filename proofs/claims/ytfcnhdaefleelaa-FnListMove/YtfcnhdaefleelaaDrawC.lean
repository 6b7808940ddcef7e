/- Draws: the reader is opened; ends and places. -/
import Derived.Test.YtfcnhdaefleelaaDrawB
import Derived.ChangeSlices
namespace Go.Proofs.Ytfcnhdaefleelaa
open Go.RowKit

theorem bytes_of_none {W : World} {a : Option Addr} {n c : Nat} (h : a = none ∧ n = 0 ∧ c = 0) : ∃ zs, IsBytes W (.slice a n c) zs := by
  obtain ⟨rfl, rfl, rfl⟩ := h
  exact ⟨[], none, 0, rfl, by simp, by simp, by simp, by simp⟩
theorem bytes_of_some {W : World} {a : Option Addr} {n c ln cp : Nat} {x : Addr} {zs : List Int} (h : a = some x ∧ n = ln ∧ c = cp) (hl : ln ≤ cp) (hm : cp ≤ maxLen) (hz : zs.length = cp)
    (hcell : ∀ i, i < zs.length → W.cell? (x.add i) = some (.int .u8 (zs.getD i 0))) (hwz : ∀ z ∈ zs, (Lit.int .u8 z).wf = true) : ∃ zs, IsBytes W (.slice a n c) zs := by
  obtain ⟨rfl, rfl, rfl⟩ := h
  have e : (zs.take n).length = n := by simp; omega
  refine ⟨zs.take n, some x, c, by rw [e], by omega, hm, fun z hz' => ?_, fun h0 => ?_⟩
  · have := hwz z (List.mem_of_mem_take hz')
    simpa [Lit.wf, IntKind.min, IntKind.max, IntKind.signed, IntKind.bits] using this
  · obtain ⟨b, off, spot⟩ := x
    have hc := hcell 0 (by omega)
    have hspot : spot = none := by simpa [Addr.add] using World.cell?_spot hc
    subst hspot
    refine ⟨b, off, rfl, World.block_lt_of_cell? W _ hc, fun k hk => ?_⟩
    have h1 := hcell k (by omega)
    have h2 : bt (zs.take n) k = zs.getD k 0 := by
      unfold bt; rw [List.getD_eq_getElem?_getD, List.getD_eq_getElem?_getD, List.getElem?_take, if_pos (by omega)]
    rw [h2, ← h1]
    congr 1
    unfold Addr.add; split <;> simp_all

theorem rd_new (w : World) (ao : Option Addr) (zs : List Int) (cap : Nat) (hlen : zs.length ≤ 2000) (hzb : ∀ z ∈ zs, 0 ≤ z ∧ z ≤ 255)
    (hz : 0 < zs.length → ∃ b off, ao = some ⟨b, off, none⟩ ∧ b < w.heap.size ∧ ∀ k, k < zs.length → w.cell? ⟨b, off + k, none⟩ = some (.int .u8 (bt zs k))) :
    RdAt (w.alloc (.cells #[.slice ao zs.length cap, .int .i64 0] 60)) w.heap.size (.slice ao zs.length cap) zs 0 := by
  refine ⟨heap_alloc_new w _, ao, cap, rfl, hlen, hzb, fun h0 => ?_⟩
  obtain ⟨b, off, hao, hb, hc⟩ := hz h0
  refine ⟨b, off, hao, hb, fun k hk => ?_⟩
  rw [← hc k hk]
  exact ((Below.refl w.heap.size w).alloc (Nat.le_refl _) _).cell (p := ⟨b, off + k, none⟩) hb

set_option maxHeartbeats 2000000 in
theorem open_any (v : Value) (zs : List Int) (w : World) (h : IsBytes w v zs) :
    Calls Try.prog 18 #[v] w fun e w' => e = .returned (.pointer (some ⟨w.heap.size, 0, none⟩)) ∧ (∃ v' zs', RdAt w' w.heap.size v' zs' 0) ∧ w.heap.size < w'.heap.size ∧ Below w.heap.size w w' := by
  obtain ⟨ao, cap, rfl, hlc, hcm, hzb, hz⟩ := h
  unfold maxLen at hcm
  have hB : ∀ o, Below w.heap.size w (w.alloc o) := fun o => (Below.refl _ w).alloc (Nat.le_refl _) o
  by_cases hlen : zs.length ≤ 2000
  · have hlen' : ¬ (2000 : Int) < (zs.length : Int) := by omega
    go_enter Try.func18, Try.ntmps18
    go_wp2_with fail
    go_ret
    refine ⟨rfl, ⟨_, zs, rd_new w ao zs cap hlen hzb hz⟩, by simp, hB _⟩
  · have hlen' : (2000 : Int) < (zs.length : Int) := by omega
    have hcap' : (2000 : Int) ≤ (cap : Int) := by omega
    obtain ⟨b, off, rfl, hb, hc⟩ := hz (by omega)
    have e : (zs.take 2000).length = 2000 := by simp; omega
    have hrd := rd_new w (some ⟨b, off, none⟩) (zs.take 2000) cap (by omega) (fun z hz' => hzb z (List.mem_of_mem_take hz')) (fun _ => ⟨b, off, rfl, hb, fun k hk => by
      rw [hc k (by omega)]; unfold bt; rw [List.getD_eq_getElem?_getD, List.getD_eq_getElem?_getD, List.getElem?_take, if_pos (by omega)]⟩)
    rw [e] at hrd
    clear hz hc
    go_enter Try.func18, Try.ntmps18
    go_wp2_with fail
    go_ret
    refine ⟨rfl, ⟨_, zs.take 2000, hrd⟩, by simp, hB _⟩

theorem infoI : (Try.prog.info? 3).map (fun i => (i.zero, i.size, i.bytes)) = some (some (.int .i64 0), 1, 8) := by kernel_rfl

def placesL : List Int := [0, 1, 2, -1, -2, 5, -9, 100, 1000000000, 1000000001]

/-- what grew but for a block that is new is below -/
theorem below_rd {w a b : World} (h : Below w.heap.size w a) (hg : a.grownBy b (some w.heap.size)) : Below w.heap.size w b :=
  h.grown hg h.size (fun k hk => by simp at hk; omega)

end Go.Proofs.Ytfcnhdaefleelaa
