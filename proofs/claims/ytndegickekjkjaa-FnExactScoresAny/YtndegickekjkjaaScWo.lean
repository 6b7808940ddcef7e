/- A table without a row; the program's drop. -/
import Derived.Test.YtndegickekjkjaaScF
import Derived.Test.YtndegickekjkjaaScCl
import Derived.Test.YtndegickekjkjaaScDe
import Derived.Test.YtndegickekjkjaaBx
namespace Go.Proofs.Ytndegickekjkjaa
open Go.RowKit

def scWo (l : List (ByteArray × Int)) (s : ByteArray) : List (ByteArray × Int) := l.eraseIdx (scIdx l s)
theorem scWo_miss {l : List (ByteArray × Int)} {s : ByteArray} (h : scPlc l s < 0) : scWo l s = l := by
  unfold scWo
  rw [List.eraseIdx_of_length_le]
  unfold scPlc at h
  split at h
  · omega
  · next h' => omega
theorem scPlc_idx {l : List (ByteArray × Int)} {s : ByteArray} (h : 0 ≤ scPlc l s) : scPlc l s = (scIdx l s : Int) ∧ scIdx l s < l.length := by
  unfold scPlc at h ⊢
  split at h
  · next h' => rw [if_pos h']; exact ⟨rfl, h'⟩
  · omega
theorem scWo_len (l : List (ByteArray × Int)) (s : ByteArray) : (scWo l s).length ≤ l.length := by unfold scWo; exact List.length_eraseIdx_le _ _

theorem sc_res {w : World} {tmps : Array Value} {g : Nat} {x y0 y1 y2 y3 : Value} {bb : Bool} (hp : tmps[4]?.getD undef = .pointer (some ⟨g, 0, none⟩)) (hb : tmps[5]?.getD undef = .bool bb)
    (hg : w.rangeAt g 0 [x, y0, y1, y2, y3]) : (results Try.f38 tmps).run Try.prog w = .ok (.tuple #[.agg #[x, y0, y1, y2, y3], .bool bb]) w := by
  have hl := run_loadVar_mid (P := Try.prog) w g 0 47 [x, y0, y1, y2, y3] _ hg Try.underlying47 rfl (by kernel_rfl)
  simp [results, Try.results38, asAddr, hp, hb, hl]

set_option maxHeartbeats 8000000 in
set_option maxRecDepth 20000 in
theorem scWithout_any (v : Value) (l : List (ByteArray × Int)) (s : ByteArray) (w : World) (hr : ScReads w v l) (hlen : l.length ≤ 1048576) :
    Calls Try.prog 38 #[.agg #[v, .int .i64 16, .func (.func 32) #[] #[], .func (.func 33) #[] #[], .func (.func 34) #[] #[]], .string s] w fun e w' => ∃ x, e = .returned (.tuple #[.agg #[x, .int .i64 16, .func (.func 32) #[] #[], .func (.func 33) #[] #[], .func (.func 34) #[] #[]], .bool (decide (0 ≤ scPlc l s))]) ∧ ScOwns w' w.heap.size x (scWo l s) ∧ Below w.heap.size w w' := by
  have hrs := fun (k : Nat) (w : World) (a : Addr) => run_store Try.prog w a (.func (.func k) #[] #[]) .plain rfl
  obtain ⟨ao, cap, rfl⟩ := readsR_shape hr
  obtain ⟨W0, hW0⟩ : ∃ W0, (w.alloc (.cells #[.slice ao l.length cap, .int .i64 16, .func (.func 32) #[] #[], .func (.func 33) #[] #[], .func (.func 34) #[] #[]] 47)).alloc (.cells #[.slice none 0 0, .int .i64 0, .nilFunc, .nilFunc, .nilFunc] 47) = W0 := ⟨_, rfl⟩
  have hB0 : Below w.heap.size w W0 := by rw [← hW0]; exact ((Below.refl _ w).alloc (Nat.le_refl _) _).alloc (by simp) _
  have hz0 : w.heap.size + 2 ≤ W0.heap.size := by rw [← hW0]; simp
  have hbx : Box5 W0 w.heap.size (.slice ao l.length cap) (.int .i64 16) (.func (.func 32) #[] #[]) (.func (.func 33) #[] #[]) (.func (.func 34) #[] #[]) := by
    rw [← hW0]; exact box5_below (box5_row (heap_alloc_new w _)) ((Below.refl (w.heap.size + 1) _).alloc (by simp) _) (by omega)
  have hby : Box5 W0 (w.heap.size + 1) (.slice none 0 0) (.int .i64 0) .nilFunc .nilFunc .nilFunc := by
    rw [← hW0]; exact box5_row (heap_alloc2_new w _ _)
  have e0 := hbx.c0
  have e1 := hbx.c1
  have e2 := hbx.c2
  have e3 := hbx.c3
  have e4 := hbx.c4
  go_enter Try.func38, Try.ntmps38
  go_wp2_with fail
  clear hW0 e0 e1 e2 e3 e4
  refine (scPlace_any _ l s _ (readsR_kept hr hB0) hlen).mono ?_
  rintro e w1 ⟨rfl, hb1⟩
  have hz1 := hb1.size
  have hB1 := hB0.trans (hb1.mono hB0.size)
  have hbx1 := box5_below hbx hb1 (by omega)
  have hby1 := box5_below hby hb1 (by omega)
  have hc0 := hbx1.c0
  clear hbx hby hB0 hb1
  go_wp2_with fail
  refine (scClone_any _ l _ (readsR_kept hr hB1) hlen).mono ?_
  rintro e w2 ⟨x, rfl, ho2, hb2⟩
  have hz2 := hb2.size
  have hB2 := hB1.trans (hb2.mono hB1.size)
  have hbx2 := box5_below hbx1 hb2 (by omega)
  have hby2 := box5_below hby1 hb2 (by omega)
  clear hbx1 hby1 hB1 hb2 hc0
  have hc2 := hbx2.c0
  have hf2 := hbx2.f0
  have ho3 := own_setCell ho2 ⟨w.heap.size, 0, none⟩ x (by show w.heap.size < _; omega)
  have hbx3 := box5_set0 hbx2 x
  have hby3 : Box5 (w2.setCell ⟨w.heap.size, 0, none⟩ x) (w.heap.size + 1) (.slice none 0 0) (.int .i64 0) .nilFunc .nilFunc .nilFunc := box5_kept hby2 (grown_setCell w2 ⟨w.heap.size, 0, none⟩ x) (by simp)
  have hB3 : Below w.heap.size w (w2.setCell ⟨w.heap.size, 0, none⟩ x) := hB2.setCell (Nat.le_refl _) _
  have hz3 : w2.heap.size ≤ (w2.setCell ⟨w.heap.size, 0, none⟩ x).heap.size := (grown_setCell w2 ⟨w.heap.size, 0, none⟩ x).size
  obtain ⟨ax, cx, hxv⟩ := readsR_shape (ownsR_reads scC_len ho2)
  subst hxv
  clear ho2 hbx2 hby2 hB2
  rcases Int.lt_or_le (scPlc l s) 0 with hneg | hpos
  · have HW : Hid (scWo l s = l) := scWo_miss hneg
    have HD : Hid (decide (0 ≤ scPlc l s) = false) := by show _ = _; simp; omega
    obtain ⟨W3, hW3⟩ : ∃ W3, w2.setCell ⟨w.heap.size, 0, none⟩ (.slice ax l.length cx) = W3 := ⟨_, rfl⟩
    rw [hW3] at ho3 hbx3 hby3 hB3 hz3
    have e0 := hbx3.c0
    have e1 := hbx3.c1
    have e2 := hbx3.c2
    have e3 := hbx3.c3
    have e4 := hbx3.c4
    have d0 := hby3.c0
    have d1 := hby3.c1
    have d2 := hby3.c2
    have d3 := hby3.c3
    have d4 := hby3.c4
    have g0 := hby3.f0
    have g1 := hby3.f1
    have g2 := hby3.f2
    have g3 := hby3.f3
    have g4 := hby3.f4
    go_wp2_with fail
    refine bodyPost_ret (sc_res rfl rfl (box5_set5 hby3 _ _ _ _ _)) rfl ⟨_, by rw [HD.out], ?_, ?_⟩
    · rw [HW.out]
      exact ownsR_base (own_setCell (own_setCell (own_setCell (own_setCell (own_setCell ho3 _ _ (by show w.heap.size + 1 < _; omega)) _ _ (by show w.heap.size + 1 < _; omega)) _ _ (by show w.heap.size + 1 < _; omega)) _ _ (by show w.heap.size + 1 < _; omega)) _ _ (by show w.heap.size + 1 < _; omega)) (by omega)
    · exact ((((hB3.setCell (by show _ ≤ w.heap.size + 1; omega) _).setCell (by show _ ≤ w.heap.size + 1; omega) _).setCell (by show _ ≤ w.heap.size + 1; omega) _).setCell (by show _ ≤ w.heap.size + 1; omega) _).setCell (by show _ ≤ w.heap.size + 1; omega) _
  · obtain ⟨hpi, hlt⟩ := scPlc_idx hpos
    obtain ⟨i, hi⟩ : ∃ i, scIdx l s = i := ⟨_, rfl⟩
    rw [hi] at hpi hlt
    have HW : Hid (scWo l s = l.eraseIdx i) := by show _ = _; unfold scWo; rw [hi]
    have HD : Hid (decide (0 ≤ scPlc l s) = true) := by show _ = _; simpa using hpos
    have HD2 : Hid (scPlc l s = (i : Int)) := hpi
    rw [hpi]
    clear hi hpi hpos
    obtain ⟨g, hg⟩ : ∃ g, ax = some ⟨g, 0, none⟩ := by
      rcases ownsR_form ho3 with ⟨h0, _⟩ | ⟨_, g, c, hv⟩
      · rw [h0] at hlt; simp at hlt
      · simp only [Value.slice.injEq, true_and] at hv; exact ⟨g, hv.1⟩
    subst hg
    have hgb := (World.ownsRow.lt ho3 g rfl).1
    have hi0 : ¬ ((i : Int) < 0) := by omega
    obtain ⟨W3, hW3⟩ : ∃ W3, w2.setCell ⟨w.heap.size, 0, none⟩ (.slice (some ⟨g, 0, none⟩) l.length cx) = W3 := ⟨_, rfl⟩
    rw [hW3] at ho3 hbx3 hby3 hB3 hz3
    have e0 := hbx3.c0
    go_wp2_with fail
    refine (scDelete_any g cx i _ l W3 ho3 hlt hlen).mono ?_
    rintro e w4 ⟨rfl, ho4, hg4⟩
    have hz4 := hg4.size
    have hbx4 := box5_kept hbx3 hg4 (by intro h; have := Option.some.inj h; omega)
    have hby4 := box5_kept hby3 hg4 (by intro h; have := Option.some.inj h; omega)
    have hB4 : Below w.heap.size w w4 := hB3.grown hg4 hB3.size (fun k hk => by have := Option.some.inj hk; omega)
    have q0 := hbx4.c0
    have q1 := hbx4.f0
    have ho5 := own_setCell ho4 ⟨w.heap.size, 0, none⟩ (.slice (some ⟨g, 0, none⟩) (l.length - 1) cx) (by show w.heap.size < _; omega)
    have hbx5 := box5_set0 hbx4 (.slice (some ⟨g, 0, none⟩) (l.length - 1) cx)
    have hby5 := box5_kept hby4 (grown_setCell w4 ⟨w.heap.size, 0, none⟩ (.slice (some ⟨g, 0, none⟩) (l.length - 1) cx)) (by simp)
    have hB5 : Below w.heap.size w (w4.setCell ⟨w.heap.size, 0, none⟩ (.slice (some ⟨g, 0, none⟩) (l.length - 1) cx)) := hB4.setCell (Nat.le_refl _) _
    obtain ⟨W5, hW5⟩ : ∃ W5, w4.setCell ⟨w.heap.size, 0, none⟩ (.slice (some ⟨g, 0, none⟩) (l.length - 1) cx) = W5 := ⟨_, rfl⟩
    rw [hW5] at ho5 hbx5 hby5 hB5
    clear hW3 e0 ho3 hbx3 hby3 hB3 ho4 hg4 hbx4 hby4 hB4 hc2 hf2
    have e0 := hbx5.c0
    have e1 := hbx5.c1
    have e2 := hbx5.c2
    have e3 := hbx5.c3
    have e4 := hbx5.c4
    have d0 := hby5.c0
    have d1 := hby5.c1
    have d2 := hby5.c2
    have d3 := hby5.c3
    have d4 := hby5.c4
    have g0 := hby5.f0
    have g1 := hby5.f1
    have g2 := hby5.f2
    have g3 := hby5.f3
    have g4 := hby5.f4
    go_wp2_with fail
    refine bodyPost_ret (sc_res rfl rfl (box5_set5 hby5 _ _ _ _ _)) rfl ⟨_, by rw [HD.out], ?_, ?_⟩
    · rw [HW.out]
      exact ownsR_base (own_setCell (own_setCell (own_setCell (own_setCell (own_setCell ho5 _ _ (by show w.heap.size + 1 < _; omega)) _ _ (by show w.heap.size + 1 < _; omega)) _ _ (by show w.heap.size + 1 < _; omega)) _ _ (by show w.heap.size + 1 < _; omega)) _ _ (by show w.heap.size + 1 < _; omega)) (by omega)
    · exact ((((hB5.setCell (by show _ ≤ w.heap.size + 1; omega) _).setCell (by show _ ≤ w.heap.size + 1; omega) _).setCell (by show _ ≤ w.heap.size + 1; omega) _).setCell (by show _ ≤ w.heap.size + 1; omega) _).setCell (by show _ ≤ w.heap.size + 1; omega) _
end Go.Proofs.Ytndegickekjkjaa
