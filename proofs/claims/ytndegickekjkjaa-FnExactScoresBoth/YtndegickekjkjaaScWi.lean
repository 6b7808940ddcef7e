/- A table with a row: the program's. -/
import Derived.Test.YtndegickekjkjaaScWo
import Derived.Test.YtndegickekjkjaaScIn
import Derived.Test.YtndegickekjkjaaScPo
import Derived.Test.YtndegickekjkjaaScD
namespace Go.Proofs.Ytndegickekjkjaa
open Go.RowKit

theorem scInsert_any (x : Value) (l : List (ByteArray × Int)) (i : Nat) (y : (ByteArray × Int)) (vb base : Nat) (w : World) (ho : ScOwns w base x l) (hv : w.heap[vb]? = some (.cells (scC y).toArray 36 (0, 0))) (hap : x.ownBlock ≠ some vb) (hbase : base ≤ w.heap.size) (hi : i ≤ l.length) (hlen : l.length ≤ 1048576) :
    Calls Try.prog 39 #[x, .int .i64 (i : Int), .slice (some ⟨vb, 0, none⟩) 1 1] w fun e w' => ∃ x', e = .returned x' ∧ ScOwns w' base x' (l.take i ++ y :: l.drop i) ∧ Below base w w' := by
  have hgb : ∀ w', w.grownBy w' x.ownBlock → Below base w w' := fun w' hg => (Below.refl base w).grown hg hbase (fun k hk => (World.ownsRow.lt ho k hk).1)
  by_cases he : i = l.length
  · subst he
    refine (scInsert_end x l y vb base w ho hv hbase hlen).mono ?_
    rintro e w' ⟨x', rfl, h1, h2⟩
    exact ⟨x', rfl, by simpa using h1, hgb _ h2⟩
  · rcases ownsR_form ho with ⟨rfl, _⟩ | ⟨_, g, cap, rfl⟩
    · simp at hi; exact absurd hi (by simpa using he)
    · by_cases hroom : l.length + 1 ≤ cap
      · refine (scInsert_room g cap i l y vb base w ho hv (fun e => hap (by rw [e]; rfl)) (by omega) hroom hlen).mono ?_
        rintro e w' ⟨rfl, h1, h2⟩
        exact ⟨_, rfl, h1, hgb _ h2⟩
      · refine (scInsert_new g cap i l y vb base w ho hv hbase (by omega) (by omega) hlen).mono ?_
        rintro e w' ⟨G, rfl, h1, h2⟩
        exact ⟨_, rfl, h1, h2.mono hbase⟩
theorem box5_allSc {w : World} {B : Nat} {x0 x1 x2 x3 x4 : Value} (h : Box5 w B x0 x1 x2 x3 x4) (u0 u1 u2 u3 u4 : Value) : Box5 (((((w.setCell ⟨B, 0, none⟩ u0).setCell ⟨B, 1, none⟩ u1).setCell ⟨B, 2, none⟩ u2).setCell ⟨B, 3, none⟩ u3).setCell ⟨B, 4, none⟩ u4) B u0 u1 u2 u3 u4 := by
  have hr := box5_set5 h u0 u1 u2 u3 u4
  have g := fun (j : Nat) (v : Value) (hv : [u0, u1, u2, u3, u4][j]? = some v) => hr j v hv
  refine ⟨by have := g 0 u0 rfl; rwa [Nat.zero_add] at this, by have := g 1 u1 rfl; rwa [Nat.zero_add] at this, by have := g 2 u2 rfl; rwa [Nat.zero_add] at this, by have := g 3 u3 rfl; rwa [Nat.zero_add] at this, by have := g 4 u4 rfl; rwa [Nat.zero_add] at this, ?_, ?_, ?_, ?_, ?_⟩
  all_goals simp only [World.frozen?_setCell]
  · exact h.f0
  · exact h.f1
  · exact h.f2
  · exact h.f3
  · exact h.f4
theorem sc_resW {w : World} {tmps : Array Value} {g : Nat} {x y0 y1 y2 y3 : Value} (hp : tmps[4]?.getD undef = .pointer (some ⟨g, 0, none⟩))
    (hg : w.rangeAt g 0 [x, y0, y1, y2, y3]) : (results Try.f30 tmps).run Try.prog w = .ok (.agg #[x, y0, y1, y2, y3]) w := by
  have hl := run_loadVar_mid (P := Try.prog) w g 0 47 [x, y0, y1, y2, y3] _ hg Try.underlying47 rfl (by kernel_rfl)
  simp [results, Try.results30, asAddr, hp, hl]
end Go.Proofs.Ytndegickekjkjaa
