/- Streams that are not ok, by a row. Plain facts. -/
import Derived.Test.YtbkllceceaedpaaStS
import Derived.Test.YtbkllceceaedpaaTk
namespace Go.Proofs.Ytbkllceceaedpaa
open Go.RowKit
set_option linter.unusedVariables false

theorem wt_all_not {a b : Int} {x : GpE} {k : Nat} (hk : k < x.l.length) (h : wtRowB x.t x.n (wtAt x.l k) = false) : gpFullB a b x = false := by
  unfold gpFullB gpRowB; rw [all_wt_not hk h]; simp
theorem wt_asc_not {a b : Int} {x : GpE} {k : Nat} (hk : k + 1 < x.l.length) (h : idLessB (wtIds x.l k) (wtIds x.l (k + 1)) = false) : gpFullB a b x = false := by
  unfold gpFullB gpRowB; rw [ascU_not hk h]; simp
theorem it_all_not {t n : Int} {li : List ItRow} {lg : List GpRow} {k : Nat} (hk : k < li.length) (h : itRowB t n (itAt li k).e = false) : stOkB t n li lg = false := by
  unfold stOkB; rw [all_it_not hk h]; simp
theorem it_asc_not {t n : Int} {li : List ItRow} {lg : List GpRow} {k : Nat} (hk : k + 1 < li.length) (h : idLessB (itIds li k) (itIds li (k + 1)) = false) : stOkB t n li lg = false := by
  unfold stOkB; rw [ascU_not hk h]; simp
theorem gp_all_not {t n : Int} {li : List ItRow} {lg : List GpRow} {k : Nat} (hk : k < lg.length) (h : gpFullB t n (gpAt lg k).e = false) : stOkB t n li lg = false := by
  unfold stOkB; rw [all_gp_not hk h]; simp
theorem gp_asc_not {t n : Int} {li : List ItRow} {lg : List GpRow} {k : Nat} (hk : k + 1 < lg.length) (h : ltN (gpNames lg k) (gpNames lg (k + 1)) = false) : stOkB t n li lg = false := by
  unfold stOkB; rw [ascU_not hk h]; simp
theorem lastC {wr w2 : World} {a b c : Prop} (hh : a ∧ b ∧ c ∧ Below wr.heap.size wr w2) : Below wr.heap.size wr w2 := hh.2.2.2
end Go.Proofs.Ytbkllceceaedpaa
