/-
  No cell of these rows narrows 'for every input' (looked for: loops, veiled, ifaces, maps, wideKeys, modest, calm, conditions, laid).
  DERIVED. THE GIVEN ROWS OF THIS SEAT. 3 by the template 'for every input the law returns true; each argument reads behind the call as it read before'; 0 by the template 'total and deterministic' (their statements: YtfcnhdaefleelaaTotals.lean).
  GIVEN WITH THE SEED: the statements are not yours to turn. If you find one false, say at which input.
  Laid BY PROGRAM, IN A SANDBOX (cutbox-rows.mjs): the forced cells as the released guide's own fill.sh prints them over the translation 5110e321152ec61f… (all of the seat's roots in one cut). By AI agents, Wed Nov 11 2026. No macro, syntax, notation, axiom, sorry.
-/
import Derived.Test.YtfcnhdaefleelaaChecked
import GoSem.Claim
import GoSem.ClaimJoined
import GoSem.ClaimMapViews
import Derived.JoinedTies
import Derived.KernelRfl
namespace Go.Proofs.Ytfcnhdaefleelaa
/- THE CELL 'sum', in the pinned program and in every row, IS THE sha256 OF THE DUMP (.gsa) THAT YtfcnhdaefleelaaProg.lean LOADS. Nothing in Lean hashes anything: it is a label: what it is worth is what the hold of that sum in a sandbox is worth. -/
noncomputable def Try.pinned : Pinned := { name := "ytfcnhdaefleelaa", sum := "5110e321152ec61fa9912996f299ff259d607471c98f87d18a9f31dea26f0329", checked := Try.checked }
namespace Rows
def none {H : Type} : Left H := { results := [], args := [] }

/-- 'laws.FnListMove': WHATEVER THE INPUT: true; the input reads as it did. -/
def fnListMoveSpec : ChangeSpec := { name := "fnListMove", fn := fun _ => fun
  | [d] => { results := [.lit (.bool true)], args := [d] }
  | _ => none }
def fnListMoveRow : OpenClaim := { program := "ytfcnhdaefleelaa", sum := "5110e321152ec61fa9912996f299ff259d607471c98f87d18a9f31dea26f0329", func := "loop.example/quincunx/laws.FnListMove", spec := "fnListMove", recurses := true, apart := false }
def FnListMoveSaid : Prop := fnListMoveRow.holds Try.pinned (OpenSpec.ofChange fnListMoveSpec)

/-- ITS FALSE NEIGHBOUR: 'it returns false'. Refute it at one input. -/
def fnListMoveWrong : ChangeSpec := { name := "fnListMove", fn := fun _ => fun
  | [d] => { results := [.lit (.bool false)], args := [d] }
  | _ => none }
def FnListMoveWrongFalsely : Prop := fnListMoveRow.holds Try.pinned (OpenSpec.ofChange fnListMoveWrong)

/-- 'laws.FnListSort': WHATEVER THE INPUT: true; the input reads as it did. -/
def fnListSortSpec : ChangeSpec := { name := "fnListSort", fn := fun _ => fun
  | [d] => { results := [.lit (.bool true)], args := [d] }
  | _ => none }
def fnListSortRow : OpenClaim := { program := "ytfcnhdaefleelaa", sum := "5110e321152ec61fa9912996f299ff259d607471c98f87d18a9f31dea26f0329", func := "loop.example/quincunx/laws.FnListSort", spec := "fnListSort", unfollowed := true, recurses := true, apart := false }
def FnListSortSaid : Prop := fnListSortRow.holds Try.pinned (OpenSpec.ofChange fnListSortSpec)

/-- ITS FALSE NEIGHBOUR: 'it returns false'. Refute it at one input. -/
def fnListSortWrong : ChangeSpec := { name := "fnListSort", fn := fun _ => fun
  | [d] => { results := [.lit (.bool false)], args := [d] }
  | _ => none }
def FnListSortWrongFalsely : Prop := fnListSortRow.holds Try.pinned (OpenSpec.ofChange fnListSortWrong)

/-- 'laws.FnListAt': WHATEVER THE INPUT: true; the input reads as it did. -/
def fnListAtSpec : ChangeSpec := { name := "fnListAt", fn := fun _ => fun
  | [d] => { results := [.lit (.bool true)], args := [d] }
  | _ => none }
def fnListAtRow : OpenClaim := { program := "ytfcnhdaefleelaa", sum := "5110e321152ec61fa9912996f299ff259d607471c98f87d18a9f31dea26f0329", func := "loop.example/quincunx/laws.FnListAt", spec := "fnListAt", recurses := true, apart := false }
def FnListAtSaid : Prop := fnListAtRow.holds Try.pinned (OpenSpec.ofChange fnListAtSpec)

/-- ITS FALSE NEIGHBOUR: 'it returns false'. Refute it at one input. -/
def fnListAtWrong : ChangeSpec := { name := "fnListAt", fn := fun _ => fun
  | [d] => { results := [.lit (.bool false)], args := [d] }
  | _ => none }
def FnListAtWrongFalsely : Prop := fnListAtRow.holds Try.pinned (OpenSpec.ofChange fnListAtWrong)

/- THE SECOND FORM. 'bulk': how many values and letters a reading holds, each counted each time it is reached (what is shared counts as often as it is met; a slice's spare places count too). A statement '..UptoSaid' is the law's where the arguments, and the package variables that the reading takes, are together of bulk at most 1048576: NARROWER than '..Said'. Prove '..Said' where nothing that the law and all that it calls make is longer than what came in: it says more and counts as full. Else prove '..UptoSaid'. A law counts once. -/
mutual
def uptoBulk {H : Type} : DataW H → Nat
  | .lit (.string bytes) => bytes.length + 1
  | .lit _ => 1
  | .nil => 1
  | .ptr d => uptoBulk d + 1
  | .slice elems spare => uptoBulkAll elems + uptoBulkAll spare + 1
  | .agg parts => uptoBulkAll parts + 1
  | .iface _ d => uptoBulk d + 1
  | .map entries => uptoBulkEntries entries + 1
  | .held _ => 1
def uptoBulkAll {H : Type} : List (DataW H) → Nat
  | [] => 0
  | d :: r => uptoBulk d + uptoBulkAll r
def uptoBulkEntries {H : Type} : List (Lit × DataW H) → Nat
  | [] => 0
  | x :: r => uptoBulkEntry x + uptoBulkEntries r
def uptoBulkEntry {H : Type} : Lit × DataW H → Nat
  | (.string bytes, d) => bytes.length + uptoBulk d + 1
  | (_, d) => uptoBulk d + 1
 end
def uptoSmall : (H : Type) → List (DataW H) → Bool := fun _ ds => decide (uptoBulkAll ds ≤ 1048576)
def OpenSpec.upto (s : _root_.Go.ChangeSpec) : _root_.Go.OpenSpec := { _root_.Go.OpenSpec.ofChange s with cond := some uptoSmall }

/-- 'laws.FnListMove', WHERE WHAT IT READS IS OF BULK AT MOST 1048576: true; the input reads as it did. -/
def fnListMoveUptoRow : OpenClaim := { program := "ytfcnhdaefleelaa", sum := "5110e321152ec61fa9912996f299ff259d607471c98f87d18a9f31dea26f0329", func := "loop.example/quincunx/laws.FnListMove", spec := "fnListMove", recurses := true, apart := false, narrowed := true }
def FnListMoveUptoSaid : Prop := fnListMoveUptoRow.holds Try.pinned (OpenSpec.upto fnListMoveSpec)

/-- 'laws.FnListSort', WHERE WHAT IT READS IS OF BULK AT MOST 1048576: true; the input reads as it did. -/
def fnListSortUptoRow : OpenClaim := { program := "ytfcnhdaefleelaa", sum := "5110e321152ec61fa9912996f299ff259d607471c98f87d18a9f31dea26f0329", func := "loop.example/quincunx/laws.FnListSort", spec := "fnListSort", unfollowed := true, recurses := true, apart := false, narrowed := true }
def FnListSortUptoSaid : Prop := fnListSortUptoRow.holds Try.pinned (OpenSpec.upto fnListSortSpec)

/-- 'laws.FnListAt', WHERE WHAT IT READS IS OF BULK AT MOST 1048576: true; the input reads as it did. -/
def fnListAtUptoRow : OpenClaim := { program := "ytfcnhdaefleelaa", sum := "5110e321152ec61fa9912996f299ff259d607471c98f87d18a9f31dea26f0329", func := "loop.example/quincunx/laws.FnListAt", spec := "fnListAt", recurses := true, apart := false, narrowed := true }
def FnListAtUptoSaid : Prop := fnListAtUptoRow.holds Try.pinned (OpenSpec.upto fnListAtSpec)

end Rows
end Go.Proofs.Ytfcnhdaefleelaa
