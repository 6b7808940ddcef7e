/- The program's pick: the texts of two ascending lists that are in as wanted. -/
import Derived.Test.YtndegickekjkjaaSetX
namespace Go.Proofs.Ytndegickekjkjaa
open Go.RowKit Go.Shelf

attribute [local go_sem] Oper.semAt_some

theorem boxed_below {W W' : World} {n B : Nat} {t : TypeId} {v : Value} (h : Boxed W B t v) (hB : Below n W W') (hn : B < n) : Boxed W' B t v := (hB.block B hn).trans h
theorem merged_stops (n : Nat) (hn : 1 ≤ n) (Ba Bb : Nat) (w0 w : World) (va vb : Value) (a b : List ByteArray) (hra : Reads w0 va a) (hrb : Reads w0 vb b) (ha : a.length ≤ 1048576) (hb : b.length ≤ 1048576)
    (hB : Below w0.heap.size w0 w) (hba : Boxed w Ba 49 va) (hbb : Boxed w Bb 49 vb) :
    SeqStopsK Fence.wide n Try.prog 42 #[.pointer (some ⟨Ba, 0, none⟩), .pointer (some ⟨Bb, 0, none⟩)] encM (KpM w0.heap.size Ba Bb) (fun ys => ys = mrg a b) (fun pre => pre <+: mrg a b) (mrg a b).length w := fun l J Jx W hW hJ _ hY h0 =>
  merged1_in n hn l Ba Bb w0 va vb a b hra hrb ha hb J Jx hY W hJ (hB.trans (hW.mono hB.size)) (boxed_below hba hW hba.lt) (boxed_below hbb hW hbb.lt) h0

set_option maxHeartbeats 1000000 in
theorem merged_in (n : Nat) (aa ab : Option Addr) (na nb ca cb : Nat) (w : World) :
    CallsIn Fence.wide n Try.prog 35 #[.slice aa na ca, .slice ab nb cb] w fun e w' => e = .returned (.func (.func 42) #[] #[.pointer (some ⟨w.heap.size, 0, none⟩), .pointer (some ⟨w.heap.size + 1, 0, none⟩)]) ∧ w' = (w.alloc (.cells #[.slice aa na ca] 49)).alloc (.cells #[.slice ab nb cb] 49) := by
  refine callsIn_of_wp Try.func35 rfl trivial ?_ rfl
  simp only [Try.ntmps35, List.size_toArray, List.length_cons, List.length_nil, Nat.reduceAdd, Nat.reduceSub, Array.replicate_succ, Array.replicate_zero, List.push_toArray, List.append_toArray, List.nil_append, List.cons_append]
  gi_wp2
  go_ret
  exact ⟨rfl, rfl⟩

def hitM (k m : Int) : Bool := (m == 7) || (k == m)
def pickL (m : Int) (l : List (ByteArray × Nat)) : List ByteArray := (l.filter (fun p => hitM (mkM p.2) m)).map (·.1)
theorem pickL_hit {m : Int} {pre : List (ByteArray × Nat)} {x : ByteArray × Nat} (h : hitM (mkM x.2) m = true) : pickL m (pre ++ [x]) = pickL m pre ++ [x.1] := by unfold pickL; simp [h]
theorem pickL_miss {m : Int} {pre : List (ByteArray × Nat)} {x : ByteArray × Nat} (h : hitM (mkM x.2) m = false) : pickL m (pre ++ [x]) = pickL m pre := by unfold pickL; simp [h]
theorem pickL_len (m : Int) (l : List (ByteArray × Nat)) : (pickL m l).length ≤ l.length := by unfold pickL; rw [List.length_map]; exact List.length_filter_le _ _
theorem mrgF_len : ∀ (n : Nat) (a b : List ByteArray), (mrgF n a b).length ≤ n
  | 0, _, _ => by simp [mrgF]
  | n + 1, [], [] => by simp [mrgF]
  | n + 1, x :: a, [] => by simp only [mrgF, List.length_cons]; have := mrgF_len n a []; omega
  | n + 1, [], y :: b => by simp only [mrgF, List.length_cons]; have := mrgF_len n [] b; omega
  | n + 1, x :: a, y :: b => by
    rw [mrgF]
    split
    · simp only [List.length_cons]; have := mrgF_len n a (y :: b); omega
    · split
      · simp only [List.length_cons]; have := mrgF_len n (x :: a) b; omega
      · simp only [List.length_cons]; have := mrgF_len n a b; omega
theorem mrg_len (a b : List ByteArray) : (mrg a b).length ≤ a.length + b.length := mrgF_len _ a b
theorem pickL_M {a b : List ByteArray} (ha : Asc a) (hb : Asc b) {m : Nat} (hm : m = 1 ∨ m = 4 ∨ m = 7) : pickL (m : Int) (mrg a b) = pickM a b m := by
  unfold pickL pickM
  congr 1
  apply List.filter_congr
  intro p hp
  have := (mrg_mem a b ha hb p.1 p.2).1 hp
  have h3 : p.2 = 1 ∨ p.2 = 2 ∨ p.2 = 4 := by
    rcases this with h | h | h
    · exact .inl h.1
    · exact .inr (.inl h.1)
    · exact .inr (.inr h.1)
  rcases h3 with h | h | h <;> rcases hm with rfl | rfl | rfl <;> rw [h] <;> rfl

theorem boxed_app {W w1 : World} {n₀ B B' : Nat} {t' e : TypeId} {size k : Nat} {v u : Value} {xs : List Value} {tmp : Obj} (hu : Boxed W B' t' u) (hte : t' ≠ e) (hrow : W.ownsRow n₀ e size v k xs) (hgrow : (W.alloc tmp).grownBy w1 v.ownBlock) (hne : B' ≠ B) (v' : Value) : Boxed (w1.setCell ⟨B, 0, none⟩ v') B' t' u :=
  ((hu.alloc tmp).kept hgrow (hu.not_row hte hrow)).other hne v'
set_option maxRecDepth 100000 in
set_option maxHeartbeats 4000000 in
theorem pickS_any (va vb : Value) (a b : List ByteArray) (m : Int) (hm : m = 1 ∨ m = 4 ∨ m = 7) (w : World) (hra : Reads w va a) (hrb : Reads w vb b) (ha : a.length ≤ 1048576) (hb : b.length ≤ 1048576) :
    Calls Try.prog 27 #[va, vb, .int .i64 m] w fun e w' => ∃ x, e = .returned x ∧ Owns w' w.heap.size x (pickL m (mrg a b)) ∧ Below w.heap.size w w' := by
  obtain ⟨i0, hi, hz0, hz1, hz2⟩ := info_parts infoS
  obtain ⟨aa, ca, rfl⟩ := reads_shape hra
  obtain ⟨ab, cb, rfl⟩ := reads_shape hrb
  refine (callsIn_wide (n := 3)).1 ?_
  refine callsIn_of_wp_marks Try.func27 rfl trivial ?_ rfl
  simp only [Try.ntmps27, List.size_toArray, List.length_cons, List.length_nil, Nat.reduceAdd, Nat.reduceSub, Array.replicate_succ, Array.replicate_zero, List.push_toArray, List.append_toArray, List.nil_append, List.cons_append]
  gi_wp2_with fail
  refine ⟨trivial, ?_⟩
  refine (merged_in _ _ _ _ _ _ _ _).mono ?_
  rintro e w' ⟨rfl, rfl⟩
  gi_wp2_with fail
  have bW := Boxed.new w 3 (.int .i64 m)
  have bO := Boxed.new (w.alloc (.cells #[.int .i64 m] 3)) 49 (.slice none 0 0)
  have bA := Boxed.new ((w.alloc (.cells #[.int .i64 m] 3)).alloc (.cells #[.slice none 0 0] 49)) 49 (.slice aa a.length ca)
  have bB := Boxed.new (((w.alloc (.cells #[.int .i64 m] 3)).alloc (.cells #[.slice none 0 0] 49)).alloc (.cells #[.slice aa a.length ca] 49)) 49 (.slice ab b.length cb)
  have hB0 : Below w.heap.size w ((((w.alloc (.cells #[.int .i64 m] 3)).alloc (.cells #[.slice none 0 0] 49)).alloc (.cells #[.slice aa a.length ca] 49)).alloc (.cells #[.slice ab b.length cb] 49)) := ((((Below.refl _ w).alloc (Nat.le_refl _) _).alloc (by simp) _).alloc (by simp; omega) _).alloc (by simp; omega) _
  have bW' := ((bW.alloc (.cells #[.slice none 0 0] 49)).alloc (.cells #[.slice aa a.length ca] 49)).alloc (.cells #[.slice ab b.length cb] 49)
  have bO' := (bO.alloc (.cells #[.slice aa a.length ca] 49)).alloc (.cells #[.slice ab b.length cb] 49)
  have bA' := bA.alloc (.cells #[.slice ab b.length cb] 49)
  clear bW bO bA
  simp only [World.size_alloc] at bW' bO' bA' bB
  have hml := mrg_len a b
  obtain ⟨W0, hW0⟩ : ∃ W0, (((w.alloc (.cells #[.int .i64 m] 3)).alloc (.cells #[.slice none 0 0] 49)).alloc (.cells #[.slice aa a.length ca] 49)).alloc (.cells #[.slice ab b.length cb] 49) = W0 := ⟨_, rfl⟩
  have hsz : W0.heap.size = w.heap.size + 4 := by rw [← hW0]; simp
  rw [hW0] at bW' bO' bA' bB hB0 ⊢
  clear hW0
  refine wpIn_rangeFunc_ownG rfl (by omega) (gf := 42) (lb := #[.pointer (some ⟨w.heap.size + 1 + 1, 0, none⟩), .pointer (some ⟨w.heap.size + 1 + 1 + 1, 0, none⟩)]) rfl trivial (enters_of Try.func42 (by kernel_rfl) rfl)
    (merged_stops 2 (by omega) (w.heap.size + 1 + 1) (w.heap.size + 1 + 1 + 1) w W0 _ _ a b hra hrb ha hb hB0 bA' bB) kpM_t (kpM_b (by omega)) (Below.refl _ _) (fun _ => rfl)
    (fun pre W => (∃ v, Boxed W (w.heap.size + 1) 49 v ∧ W.ownsRow w.heap.size 9 1 v (pickL m pre).length ((pickL m pre).map Value.string) ∧ True) ∧ Below w.heap.size w W ∧ Boxed W w.heap.size 3 (.int .i64 m))
    (fun _ _ _ => False)
    (OwnFrom.and (Own.from (holdsRow_own w.heap.size (w.heap.size + 1) 49 9 1 (fun pre => (pickL m pre).length) (fun pre => (pickL m pre).map Value.string) (fun _ _ => True)) _) (OwnFrom.and (ownFrom_below (Nat.le_refl _) (by omega)) (Own.from (boxed_own _ _ (fun _ => Value.int .i64 m)) _)))
    (fun _ _ _ _ _ hs _ _ => hs)
    ⟨⟨_, bO', World.ownsRow_nil _ _ _ _, trivial⟩, hB0, bW'⟩
    (fun x => { tmps := #[.slice aa a.length ca, .slice ab b.length cb, .int .i64 m, undef, undef, .pointer (some ⟨w.heap.size, 0, none⟩), .slice none 0 0, .pointer (some ⟨w.heap.size + 1, 0, none⟩), .string x.1, .int .i64 (mkM x.2), .slice aa a.length ca, .slice ab b.length cb, .func (.func 42) #[] #[.pointer (some ⟨w.heap.size + 1 + 1, 0, none⟩), .pointer (some ⟨w.heap.size + 1 + 1 + 1, 0, none⟩)], .string x.1, .int .i64 (mkM x.2), undef, undef, undef, undef, undef, undef, undef, undef, undef], defers := [] }) ?assign ?body ?done ?stop
  case assign =>
    intro l x W K hK
    gi_wp2
    exact hK
  case body =>
    rintro l pre x W ⟨⟨v, hv, hrow, _⟩, hB, hw⟩ hlt
    have hc := hv.cell
    have hcw := hw.cell
    have hpl := pickL_len m pre
    have hHit : hitM (mkM x.2) m = true ∨ hitM (mkM x.2) m = false := by cases hitM (mkM x.2) m <;> simp
    have HH : Hid (hitM (mkM x.2) m = hitM (mkM x.2) m) := rfl
    generalize hk : mkM x.2 = k at HH hHit ⊢
    have HK : Hid (mkM x.2 = k) := hk
    have hk3 := mkM_cases x.2
    rw [hk] at hk3
    clear hk
    rcases hk3 with rfl | rfl | rfl
    · rcases hm with rfl | rfl | rfl
      · have hh : hitM (mkM x.2) 1 = true := by rw [HK.out]; exact rfl
        clear hHit HH
        gi_wp2_with (gi_at_builtin; refine wpListIn_append_own _ rfl _ _ 49 rfl w.heap.size 9 i0 (.string ByteArray.empty) 1 16 Try.underlying49 hi hz0 hz1 hz2 rfl (by decide) _ _ _ rfl (hrow.alloc _) ⟨W.heap.size, 0, none⟩ 1 1 [.string x.1] rfl rfl (cell_one_new _ _ _) (by simp [Value.oneCell']) (by unfold maxLen; omega) (by omega) (by have := hB.size; simp; omega) ?_; intro v' w1 hown' hgrow _; obtain ⟨g', cap', rfl⟩ := ownsRow_succ hown'; obtain ⟨hv1, hv2, hr2, hk2, hb2⟩ := hv.appended (by decide) hrow hB.size (Nat.le_succ _) hown' hgrow; have hc1 := hv1.cell; have hf1 := hv1.frozen)
        exact ⟨hk2.from _, ⟨hb2, fun u hu => boxed_app hu (by decide) hrow hgrow (by omega) _, fun u hu => boxed_app hu (by decide) hrow hgrow (by omega) _⟩, ⟨⟨_, hv2, by rw [pickL_hit hh]; simpa using hr2, trivial⟩, hB.trans hb2, boxed_app hw (by decide) hrow hgrow (by omega) _⟩⟩
      · have hh : hitM (mkM x.2) 4 = false := by rw [HK.out]; exact rfl
        clear hHit HH
        gi_wp2
        exact ⟨KeepsFrom.refl _ _, ⟨Below.refl _ _, fun _ h => h, fun _ h => h⟩, ⟨⟨v, hv, by rw [pickL_miss hh]; exact hrow, trivial⟩, hB, hw⟩⟩
      · have hh : hitM (mkM x.2) 7 = true := by rw [HK.out]; exact rfl
        clear hHit HH
        gi_wp2_with (gi_at_builtin; refine wpListIn_append_own _ rfl _ _ 49 rfl w.heap.size 9 i0 (.string ByteArray.empty) 1 16 Try.underlying49 hi hz0 hz1 hz2 rfl (by decide) _ _ _ rfl (hrow.alloc _) ⟨W.heap.size, 0, none⟩ 1 1 [.string x.1] rfl rfl (cell_one_new _ _ _) (by simp [Value.oneCell']) (by unfold maxLen; omega) (by omega) (by have := hB.size; simp; omega) ?_; intro v' w1 hown' hgrow _; obtain ⟨g', cap', rfl⟩ := ownsRow_succ hown'; obtain ⟨hv1, hv2, hr2, hk2, hb2⟩ := hv.appended (by decide) hrow hB.size (Nat.le_succ _) hown' hgrow; have hc1 := hv1.cell; have hf1 := hv1.frozen)
        exact ⟨hk2.from _, ⟨hb2, fun u hu => boxed_app hu (by decide) hrow hgrow (by omega) _, fun u hu => boxed_app hu (by decide) hrow hgrow (by omega) _⟩, ⟨⟨_, hv2, by rw [pickL_hit hh]; simpa using hr2, trivial⟩, hB.trans hb2, boxed_app hw (by decide) hrow hgrow (by omega) _⟩⟩
    · rcases hm with rfl | rfl | rfl
      · have hh : hitM (mkM x.2) 1 = false := by rw [HK.out]; exact rfl
        clear hHit HH
        gi_wp2
        exact ⟨KeepsFrom.refl _ _, ⟨Below.refl _ _, fun _ h => h, fun _ h => h⟩, ⟨⟨v, hv, by rw [pickL_miss hh]; exact hrow, trivial⟩, hB, hw⟩⟩
      · have hh : hitM (mkM x.2) 4 = false := by rw [HK.out]; exact rfl
        clear hHit HH
        gi_wp2
        exact ⟨KeepsFrom.refl _ _, ⟨Below.refl _ _, fun _ h => h, fun _ h => h⟩, ⟨⟨v, hv, by rw [pickL_miss hh]; exact hrow, trivial⟩, hB, hw⟩⟩
      · have hh : hitM (mkM x.2) 7 = true := by rw [HK.out]; exact rfl
        clear hHit HH
        gi_wp2_with (gi_at_builtin; refine wpListIn_append_own _ rfl _ _ 49 rfl w.heap.size 9 i0 (.string ByteArray.empty) 1 16 Try.underlying49 hi hz0 hz1 hz2 rfl (by decide) _ _ _ rfl (hrow.alloc _) ⟨W.heap.size, 0, none⟩ 1 1 [.string x.1] rfl rfl (cell_one_new _ _ _) (by simp [Value.oneCell']) (by unfold maxLen; omega) (by omega) (by have := hB.size; simp; omega) ?_; intro v' w1 hown' hgrow _; obtain ⟨g', cap', rfl⟩ := ownsRow_succ hown'; obtain ⟨hv1, hv2, hr2, hk2, hb2⟩ := hv.appended (by decide) hrow hB.size (Nat.le_succ _) hown' hgrow; have hc1 := hv1.cell; have hf1 := hv1.frozen)
        exact ⟨hk2.from _, ⟨hb2, fun u hu => boxed_app hu (by decide) hrow hgrow (by omega) _, fun u hu => boxed_app hu (by decide) hrow hgrow (by omega) _⟩, ⟨⟨_, hv2, by rw [pickL_hit hh]; simpa using hr2, trivial⟩, hB.trans hb2, boxed_app hw (by decide) hrow hgrow (by omega) _⟩⟩
    · rcases hm with rfl | rfl | rfl
      · have hh : hitM (mkM x.2) 1 = false := by rw [HK.out]; exact rfl
        clear hHit HH
        gi_wp2
        exact ⟨KeepsFrom.refl _ _, ⟨Below.refl _ _, fun _ h => h, fun _ h => h⟩, ⟨⟨v, hv, by rw [pickL_miss hh]; exact hrow, trivial⟩, hB, hw⟩⟩
      · have hh : hitM (mkM x.2) 4 = true := by rw [HK.out]; exact rfl
        clear hHit HH
        gi_wp2_with (gi_at_builtin; refine wpListIn_append_own _ rfl _ _ 49 rfl w.heap.size 9 i0 (.string ByteArray.empty) 1 16 Try.underlying49 hi hz0 hz1 hz2 rfl (by decide) _ _ _ rfl (hrow.alloc _) ⟨W.heap.size, 0, none⟩ 1 1 [.string x.1] rfl rfl (cell_one_new _ _ _) (by simp [Value.oneCell']) (by unfold maxLen; omega) (by omega) (by have := hB.size; simp; omega) ?_; intro v' w1 hown' hgrow _; obtain ⟨g', cap', rfl⟩ := ownsRow_succ hown'; obtain ⟨hv1, hv2, hr2, hk2, hb2⟩ := hv.appended (by decide) hrow hB.size (Nat.le_succ _) hown' hgrow; have hc1 := hv1.cell; have hf1 := hv1.frozen)
        exact ⟨hk2.from _, ⟨hb2, fun u hu => boxed_app hu (by decide) hrow hgrow (by omega) _, fun u hu => boxed_app hu (by decide) hrow hgrow (by omega) _⟩, ⟨⟨_, hv2, by rw [pickL_hit hh]; simpa using hr2, trivial⟩, hB.trans hb2, boxed_app hw (by decide) hrow hgrow (by omega) _⟩⟩
      · have hh : hitM (mkM x.2) 7 = true := by rw [HK.out]; exact rfl
        clear hHit HH
        gi_wp2_with (gi_at_builtin; refine wpListIn_append_own _ rfl _ _ 49 rfl w.heap.size 9 i0 (.string ByteArray.empty) 1 16 Try.underlying49 hi hz0 hz1 hz2 rfl (by decide) _ _ _ rfl (hrow.alloc _) ⟨W.heap.size, 0, none⟩ 1 1 [.string x.1] rfl rfl (cell_one_new _ _ _) (by simp [Value.oneCell']) (by unfold maxLen; omega) (by omega) (by have := hB.size; simp; omega) ?_; intro v' w1 hown' hgrow _; obtain ⟨g', cap', rfl⟩ := ownsRow_succ hown'; obtain ⟨hv1, hv2, hr2, hk2, hb2⟩ := hv.appended (by decide) hrow hB.size (Nat.le_succ _) hown' hgrow; have hc1 := hv1.cell; have hf1 := hv1.frozen)
        exact ⟨hk2.from _, ⟨hb2, fun u hu => boxed_app hu (by decide) hrow hgrow (by omega) _, fun u hu => boxed_app hu (by decide) hrow hgrow (by omega) _⟩, ⟨⟨_, hv2, by rw [pickL_hit hh]; simpa using hr2, trivial⟩, hB.trans hb2, boxed_app hw (by decide) hrow hgrow (by omega) _⟩⟩
  case done =>
    rintro D ys W hD rfl ⟨⟨v, hv, hrow, _⟩, hB, hw⟩ hK
    have hc := hv.cell
    gi_wp2
    refine ⟨by simp, .inl ⟨_, _, rfl, run_takeDeferred hK, ?_⟩⟩
    exact ⟨_, results_tmp rfl _ _ _, v, rfl, ownsRow_putObj hrow _ hK rfl, hB.trans (belowK_b (w := w) (Nat.le_refl _) W D _ _ (by omega) hK rfl rfl)⟩
  case stop =>
    rintro D c pre W _ _ h _
    exact h.elim
end Go.Proofs.Ytndegickekjkjaa
