/-
  No cell of these rows narrows 'for every input' (looked for: loops, veiled, ifaces, maps, wideKeys, modest, calm, conditions, laid).
  DERIVED. THE GIVEN ROWS OF THIS SEAT. 12 by the template 'for every input the law returns true; each argument reads behind the call as it read before'; 0 by the template 'total and deterministic' (their statements: YtjgnfneondlhhaaTotals.lean).
  GIVEN WITH THE SEED: the statements are not yours to turn. If you find one false, say at which input.
  Laid BY PROGRAM, IN A SANDBOX (cutbox-rows.mjs): the forced cells as the released guide's own fill.sh prints them over the translation aa99b3e87a9bef56… (all of the seat's roots in one cut). By AI agents, Wed Nov 11 2026. No macro, syntax, notation, axiom, sorry.
-/
import Derived.Test.YtjgnfneondlhhaaChecked
import GoSem.Claim
import GoSem.ClaimJoined
import GoSem.ClaimMapViews
import Derived.JoinedTies
import Derived.KernelRfl
namespace Go.Proofs.Ytjgnfneondlhhaa
/- THE CELL 'sum', in the pinned program and in every row, IS THE sha256 OF THE DUMP (.gsa) THAT YtjgnfneondlhhaaProg.lean LOADS. Nothing in Lean hashes anything: it is a label: what it is worth is what the hold of that sum in a sandbox is worth. -/
noncomputable def Try.pinned : Pinned := { name := "ytjgnfneondlhhaa", sum := "aa99b3e87a9bef568901247743602247fb2e6f59e368672a4ba287d536ab9de2", checked := Try.checked }
namespace Rows
def none {H : Type} : Left H := { results := [], args := [] }

/-- 'laws.FnExactSetOk': WHATEVER THE INPUT: true; the input reads as it did. -/
def fnExactSetOkSpec : ChangeSpec := { name := "fnExactSetOk", fn := fun _ => fun
  | [d] => { results := [.lit (.bool true)], args := [d] }
  | _ => none }
def fnExactSetOkRow : OpenClaim := { program := "ytjgnfneondlhhaa", sum := "aa99b3e87a9bef568901247743602247fb2e6f59e368672a4ba287d536ab9de2", func := "loop.example/quincunx/laws.FnExactSetOk", spec := "fnExactSetOk", apart := false }
def FnExactSetOkSaid : Prop := fnExactSetOkRow.holds Try.pinned (OpenSpec.ofChange fnExactSetOkSpec)

/-- ITS FALSE NEIGHBOUR: 'it returns false'. Refute it at one input. -/
def fnExactSetOkWrong : ChangeSpec := { name := "fnExactSetOk", fn := fun _ => fun
  | [d] => { results := [.lit (.bool false)], args := [d] }
  | _ => none }
def FnExactSetOkWrongFalsely : Prop := fnExactSetOkRow.holds Try.pinned (OpenSpec.ofChange fnExactSetOkWrong)

/-- 'laws.FnExactListPop': WHATEVER THE INPUT: true; the input reads as it did. -/
def fnExactListPopSpec : ChangeSpec := { name := "fnExactListPop", fn := fun _ => fun
  | [d1, d2] => { results := [.lit (.bool true)], args := [d1, d2] }
  | _ => none }
def fnExactListPopRow : OpenClaim := { program := "ytjgnfneondlhhaa", sum := "aa99b3e87a9bef568901247743602247fb2e6f59e368672a4ba287d536ab9de2", func := "loop.example/quincunx/laws.FnExactListPop", spec := "fnExactListPop", apart := false }
def FnExactListPopSaid : Prop := fnExactListPopRow.holds Try.pinned (OpenSpec.ofChange fnExactListPopSpec)

/-- ITS FALSE NEIGHBOUR: 'it returns false'. Refute it at one input. -/
def fnExactListPopWrong : ChangeSpec := { name := "fnExactListPop", fn := fun _ => fun
  | [d1, d2] => { results := [.lit (.bool false)], args := [d1, d2] }
  | _ => none }
def FnExactListPopWrongFalsely : Prop := fnExactListPopRow.holds Try.pinned (OpenSpec.ofChange fnExactListPopWrong)

/-- 'laws.FnExactListRange': WHATEVER THE INPUT: true; the input reads as it did. -/
def fnExactListRangeSpec : ChangeSpec := { name := "fnExactListRange", fn := fun _ => fun
  | [d1, d2, d3] => { results := [.lit (.bool true)], args := [d1, d2, d3] }
  | _ => none }
def fnExactListRangeRow : OpenClaim := { program := "ytjgnfneondlhhaa", sum := "aa99b3e87a9bef568901247743602247fb2e6f59e368672a4ba287d536ab9de2", func := "loop.example/quincunx/laws.FnExactListRange", spec := "fnExactListRange", apart := false }
def FnExactListRangeSaid : Prop := fnExactListRangeRow.holds Try.pinned (OpenSpec.ofChange fnExactListRangeSpec)

/-- ITS FALSE NEIGHBOUR: 'it returns false'. Refute it at one input. -/
def fnExactListRangeWrong : ChangeSpec := { name := "fnExactListRange", fn := fun _ => fun
  | [d1, d2, d3] => { results := [.lit (.bool false)], args := [d1, d2, d3] }
  | _ => none }
def FnExactListRangeWrongFalsely : Prop := fnExactListRangeRow.holds Try.pinned (OpenSpec.ofChange fnExactListRangeWrong)

/-- 'laws.FnExactListTrim': WHATEVER THE INPUT: true; the input reads as it did. -/
def fnExactListTrimSpec : ChangeSpec := { name := "fnExactListTrim", fn := fun _ => fun
  | [d1, d2, d3] => { results := [.lit (.bool true)], args := [d1, d2, d3] }
  | _ => none }
def fnExactListTrimRow : OpenClaim := { program := "ytjgnfneondlhhaa", sum := "aa99b3e87a9bef568901247743602247fb2e6f59e368672a4ba287d536ab9de2", func := "loop.example/quincunx/laws.FnExactListTrim", spec := "fnExactListTrim", apart := false }
def FnExactListTrimSaid : Prop := fnExactListTrimRow.holds Try.pinned (OpenSpec.ofChange fnExactListTrimSpec)

/-- ITS FALSE NEIGHBOUR: 'it returns false'. Refute it at one input. -/
def fnExactListTrimWrong : ChangeSpec := { name := "fnExactListTrim", fn := fun _ => fun
  | [d1, d2, d3] => { results := [.lit (.bool false)], args := [d1, d2, d3] }
  | _ => none }
def FnExactListTrimWrongFalsely : Prop := fnExactListTrimRow.holds Try.pinned (OpenSpec.ofChange fnExactListTrimWrong)

/-- 'laws.FnExactListSet': WHATEVER THE INPUT: true; the input reads as it did. -/
def fnExactListSetSpec : ChangeSpec := { name := "fnExactListSet", fn := fun _ => fun
  | [d1, d2, d3] => { results := [.lit (.bool true)], args := [d1, d2, d3] }
  | _ => none }
def fnExactListSetRow : OpenClaim := { program := "ytjgnfneondlhhaa", sum := "aa99b3e87a9bef568901247743602247fb2e6f59e368672a4ba287d536ab9de2", func := "loop.example/quincunx/laws.FnExactListSet", spec := "fnExactListSet", apart := false }
def FnExactListSetSaid : Prop := fnExactListSetRow.holds Try.pinned (OpenSpec.ofChange fnExactListSetSpec)

/-- ITS FALSE NEIGHBOUR: 'it returns false'. Refute it at one input. -/
def fnExactListSetWrong : ChangeSpec := { name := "fnExactListSet", fn := fun _ => fun
  | [d1, d2, d3] => { results := [.lit (.bool false)], args := [d1, d2, d3] }
  | _ => none }
def FnExactListSetWrongFalsely : Prop := fnExactListSetRow.holds Try.pinned (OpenSpec.ofChange fnExactListSetWrong)

/-- 'laws.FnExactListPush': WHATEVER THE INPUT: true; the input reads as it did. -/
def fnExactListPushSpec : ChangeSpec := { name := "fnExactListPush", fn := fun _ => fun
  | [d1, d2, d3] => { results := [.lit (.bool true)], args := [d1, d2, d3] }
  | _ => none }
def fnExactListPushRow : OpenClaim := { program := "ytjgnfneondlhhaa", sum := "aa99b3e87a9bef568901247743602247fb2e6f59e368672a4ba287d536ab9de2", func := "loop.example/quincunx/laws.FnExactListPush", spec := "fnExactListPush", apart := false }
def FnExactListPushSaid : Prop := fnExactListPushRow.holds Try.pinned (OpenSpec.ofChange fnExactListPushSpec)

/-- ITS FALSE NEIGHBOUR: 'it returns false'. Refute it at one input. -/
def fnExactListPushWrong : ChangeSpec := { name := "fnExactListPush", fn := fun _ => fun
  | [d1, d2, d3] => { results := [.lit (.bool false)], args := [d1, d2, d3] }
  | _ => none }
def FnExactListPushWrongFalsely : Prop := fnExactListPushRow.holds Try.pinned (OpenSpec.ofChange fnExactListPushWrong)

/-- 'laws.FnExactListDrop': WHATEVER THE INPUT: true; the input reads as it did. -/
def fnExactListDropSpec : ChangeSpec := { name := "fnExactListDrop", fn := fun _ => fun
  | [d1, d2, d3] => { results := [.lit (.bool true)], args := [d1, d2, d3] }
  | _ => none }
def fnExactListDropRow : OpenClaim := { program := "ytjgnfneondlhhaa", sum := "aa99b3e87a9bef568901247743602247fb2e6f59e368672a4ba287d536ab9de2", func := "loop.example/quincunx/laws.FnExactListDrop", spec := "fnExactListDrop", apart := false }
def FnExactListDropSaid : Prop := fnExactListDropRow.holds Try.pinned (OpenSpec.ofChange fnExactListDropSpec)

/-- ITS FALSE NEIGHBOUR: 'it returns false'. Refute it at one input. -/
def fnExactListDropWrong : ChangeSpec := { name := "fnExactListDrop", fn := fun _ => fun
  | [d1, d2, d3] => { results := [.lit (.bool false)], args := [d1, d2, d3] }
  | _ => none }
def FnExactListDropWrongFalsely : Prop := fnExactListDropRow.holds Try.pinned (OpenSpec.ofChange fnExactListDropWrong)

/-- 'laws.FnListPush': WHATEVER THE INPUT: true; the input reads as it did. -/
def fnListPushSpec : ChangeSpec := { name := "fnListPush", fn := fun _ => fun
  | [d] => { results := [.lit (.bool true)], args := [d] }
  | _ => none }
def fnListPushRow : OpenClaim := { program := "ytjgnfneondlhhaa", sum := "aa99b3e87a9bef568901247743602247fb2e6f59e368672a4ba287d536ab9de2", func := "loop.example/quincunx/laws.FnListPush", spec := "fnListPush", recurses := true, apart := false }
def FnListPushSaid : Prop := fnListPushRow.holds Try.pinned (OpenSpec.ofChange fnListPushSpec)

/-- ITS FALSE NEIGHBOUR: 'it returns false'. Refute it at one input. -/
def fnListPushWrong : ChangeSpec := { name := "fnListPush", fn := fun _ => fun
  | [d] => { results := [.lit (.bool false)], args := [d] }
  | _ => none }
def FnListPushWrongFalsely : Prop := fnListPushRow.holds Try.pinned (OpenSpec.ofChange fnListPushWrong)

/-- 'laws.FnListPop': WHATEVER THE INPUT: true; the input reads as it did. -/
def fnListPopSpec : ChangeSpec := { name := "fnListPop", fn := fun _ => fun
  | [d] => { results := [.lit (.bool true)], args := [d] }
  | _ => none }
def fnListPopRow : OpenClaim := { program := "ytjgnfneondlhhaa", sum := "aa99b3e87a9bef568901247743602247fb2e6f59e368672a4ba287d536ab9de2", func := "loop.example/quincunx/laws.FnListPop", spec := "fnListPop", recurses := true, apart := false }
def FnListPopSaid : Prop := fnListPopRow.holds Try.pinned (OpenSpec.ofChange fnListPopSpec)

/-- ITS FALSE NEIGHBOUR: 'it returns false'. Refute it at one input. -/
def fnListPopWrong : ChangeSpec := { name := "fnListPop", fn := fun _ => fun
  | [d] => { results := [.lit (.bool false)], args := [d] }
  | _ => none }
def FnListPopWrongFalsely : Prop := fnListPopRow.holds Try.pinned (OpenSpec.ofChange fnListPopWrong)

/-- 'laws.FnListRange': WHATEVER THE INPUT: true; the input reads as it did. -/
def fnListRangeSpec : ChangeSpec := { name := "fnListRange", fn := fun _ => fun
  | [d] => { results := [.lit (.bool true)], args := [d] }
  | _ => none }
def fnListRangeRow : OpenClaim := { program := "ytjgnfneondlhhaa", sum := "aa99b3e87a9bef568901247743602247fb2e6f59e368672a4ba287d536ab9de2", func := "loop.example/quincunx/laws.FnListRange", spec := "fnListRange", recurses := true, apart := false }
def FnListRangeSaid : Prop := fnListRangeRow.holds Try.pinned (OpenSpec.ofChange fnListRangeSpec)

/-- ITS FALSE NEIGHBOUR: 'it returns false'. Refute it at one input. -/
def fnListRangeWrong : ChangeSpec := { name := "fnListRange", fn := fun _ => fun
  | [d] => { results := [.lit (.bool false)], args := [d] }
  | _ => none }
def FnListRangeWrongFalsely : Prop := fnListRangeRow.holds Try.pinned (OpenSpec.ofChange fnListRangeWrong)

/-- 'laws.FnListSet': WHATEVER THE INPUT: true; the input reads as it did. -/
def fnListSetSpec : ChangeSpec := { name := "fnListSet", fn := fun _ => fun
  | [d] => { results := [.lit (.bool true)], args := [d] }
  | _ => none }
def fnListSetRow : OpenClaim := { program := "ytjgnfneondlhhaa", sum := "aa99b3e87a9bef568901247743602247fb2e6f59e368672a4ba287d536ab9de2", func := "loop.example/quincunx/laws.FnListSet", spec := "fnListSet", recurses := true, apart := false }
def FnListSetSaid : Prop := fnListSetRow.holds Try.pinned (OpenSpec.ofChange fnListSetSpec)

/-- ITS FALSE NEIGHBOUR: 'it returns false'. Refute it at one input. -/
def fnListSetWrong : ChangeSpec := { name := "fnListSet", fn := fun _ => fun
  | [d] => { results := [.lit (.bool false)], args := [d] }
  | _ => none }
def FnListSetWrongFalsely : Prop := fnListSetRow.holds Try.pinned (OpenSpec.ofChange fnListSetWrong)

/-- 'laws.FnListDrop': WHATEVER THE INPUT: true; the input reads as it did. -/
def fnListDropSpec : ChangeSpec := { name := "fnListDrop", fn := fun _ => fun
  | [d] => { results := [.lit (.bool true)], args := [d] }
  | _ => none }
def fnListDropRow : OpenClaim := { program := "ytjgnfneondlhhaa", sum := "aa99b3e87a9bef568901247743602247fb2e6f59e368672a4ba287d536ab9de2", func := "loop.example/quincunx/laws.FnListDrop", spec := "fnListDrop", recurses := true, apart := false }
def FnListDropSaid : Prop := fnListDropRow.holds Try.pinned (OpenSpec.ofChange fnListDropSpec)

/-- ITS FALSE NEIGHBOUR: 'it returns false'. Refute it at one input. -/
def fnListDropWrong : ChangeSpec := { name := "fnListDrop", fn := fun _ => fun
  | [d] => { results := [.lit (.bool false)], args := [d] }
  | _ => none }
def FnListDropWrongFalsely : Prop := fnListDropRow.holds Try.pinned (OpenSpec.ofChange fnListDropWrong)

/- THE SECOND FORM. 'bulk': how many values and letters a reading holds, each counted each time it is reached (what is shared counts as often as it is met; a slice's spare places count too). A statement '..UptoSaid' is the law's where the arguments, and the package variables that the reading takes, are together of bulk at most 1048576: NARROWER than '..Said'. Prove '..Said' where nothing that the law and all that it calls make is longer than what came in: it says more and counts as full. Else prove '..UptoSaid'. A law counts once. -/
mutual
def uptoBulk {H : Type} : DataW H → Nat
  | .lit (.string bytes) => bytes.length + 1
  | .lit _ => 1
  | .nil => 1
  | .ptr d => uptoBulk d + 1
  | .slice elems spare => uptoBulkAll elems + uptoBulkAll spare + 1
  | .agg parts => uptoBulkAll parts + 1
  | .iface _ d => uptoBulk d + 1
  | .map entries => uptoBulkEntries entries + 1
  | .held _ => 1
def uptoBulkAll {H : Type} : List (DataW H) → Nat
  | [] => 0
  | d :: r => uptoBulk d + uptoBulkAll r
def uptoBulkEntries {H : Type} : List (Lit × DataW H) → Nat
  | [] => 0
  | x :: r => uptoBulkEntry x + uptoBulkEntries r
def uptoBulkEntry {H : Type} : Lit × DataW H → Nat
  | (.string bytes, d) => bytes.length + uptoBulk d + 1
  | (_, d) => uptoBulk d + 1
 end
def uptoSmall : (H : Type) → List (DataW H) → Bool := fun _ ds => decide (uptoBulkAll ds ≤ 1048576)
def OpenSpec.upto (s : _root_.Go.ChangeSpec) : _root_.Go.OpenSpec := { _root_.Go.OpenSpec.ofChange s with cond := some uptoSmall }

/-- 'laws.FnExactSetOk', WHERE WHAT IT READS IS OF BULK AT MOST 1048576: true; the input reads as it did. -/
def fnExactSetOkUptoRow : OpenClaim := { program := "ytjgnfneondlhhaa", sum := "aa99b3e87a9bef568901247743602247fb2e6f59e368672a4ba287d536ab9de2", func := "loop.example/quincunx/laws.FnExactSetOk", spec := "fnExactSetOk", apart := false, narrowed := true }
def FnExactSetOkUptoSaid : Prop := fnExactSetOkUptoRow.holds Try.pinned (OpenSpec.upto fnExactSetOkSpec)

/-- 'laws.FnExactListPop', WHERE WHAT IT READS IS OF BULK AT MOST 1048576: true; the input reads as it did. -/
def fnExactListPopUptoRow : OpenClaim := { program := "ytjgnfneondlhhaa", sum := "aa99b3e87a9bef568901247743602247fb2e6f59e368672a4ba287d536ab9de2", func := "loop.example/quincunx/laws.FnExactListPop", spec := "fnExactListPop", apart := false, narrowed := true }
def FnExactListPopUptoSaid : Prop := fnExactListPopUptoRow.holds Try.pinned (OpenSpec.upto fnExactListPopSpec)

/-- 'laws.FnExactListRange', WHERE WHAT IT READS IS OF BULK AT MOST 1048576: true; the input reads as it did. -/
def fnExactListRangeUptoRow : OpenClaim := { program := "ytjgnfneondlhhaa", sum := "aa99b3e87a9bef568901247743602247fb2e6f59e368672a4ba287d536ab9de2", func := "loop.example/quincunx/laws.FnExactListRange", spec := "fnExactListRange", apart := false, narrowed := true }
def FnExactListRangeUptoSaid : Prop := fnExactListRangeUptoRow.holds Try.pinned (OpenSpec.upto fnExactListRangeSpec)

/-- 'laws.FnExactListTrim', WHERE WHAT IT READS IS OF BULK AT MOST 1048576: true; the input reads as it did. -/
def fnExactListTrimUptoRow : OpenClaim := { program := "ytjgnfneondlhhaa", sum := "aa99b3e87a9bef568901247743602247fb2e6f59e368672a4ba287d536ab9de2", func := "loop.example/quincunx/laws.FnExactListTrim", spec := "fnExactListTrim", apart := false, narrowed := true }
def FnExactListTrimUptoSaid : Prop := fnExactListTrimUptoRow.holds Try.pinned (OpenSpec.upto fnExactListTrimSpec)

/-- 'laws.FnExactListSet', WHERE WHAT IT READS IS OF BULK AT MOST 1048576: true; the input reads as it did. -/
def fnExactListSetUptoRow : OpenClaim := { program := "ytjgnfneondlhhaa", sum := "aa99b3e87a9bef568901247743602247fb2e6f59e368672a4ba287d536ab9de2", func := "loop.example/quincunx/laws.FnExactListSet", spec := "fnExactListSet", apart := false, narrowed := true }
def FnExactListSetUptoSaid : Prop := fnExactListSetUptoRow.holds Try.pinned (OpenSpec.upto fnExactListSetSpec)

/-- 'laws.FnExactListPush', WHERE WHAT IT READS IS OF BULK AT MOST 1048576: true; the input reads as it did. -/
def fnExactListPushUptoRow : OpenClaim := { program := "ytjgnfneondlhhaa", sum := "aa99b3e87a9bef568901247743602247fb2e6f59e368672a4ba287d536ab9de2", func := "loop.example/quincunx/laws.FnExactListPush", spec := "fnExactListPush", apart := false, narrowed := true }
def FnExactListPushUptoSaid : Prop := fnExactListPushUptoRow.holds Try.pinned (OpenSpec.upto fnExactListPushSpec)

/-- 'laws.FnExactListDrop', WHERE WHAT IT READS IS OF BULK AT MOST 1048576: true; the input reads as it did. -/
def fnExactListDropUptoRow : OpenClaim := { program := "ytjgnfneondlhhaa", sum := "aa99b3e87a9bef568901247743602247fb2e6f59e368672a4ba287d536ab9de2", func := "loop.example/quincunx/laws.FnExactListDrop", spec := "fnExactListDrop", apart := false, narrowed := true }
def FnExactListDropUptoSaid : Prop := fnExactListDropUptoRow.holds Try.pinned (OpenSpec.upto fnExactListDropSpec)

/-- 'laws.FnListPush', WHERE WHAT IT READS IS OF BULK AT MOST 1048576: true; the input reads as it did. -/
def fnListPushUptoRow : OpenClaim := { program := "ytjgnfneondlhhaa", sum := "aa99b3e87a9bef568901247743602247fb2e6f59e368672a4ba287d536ab9de2", func := "loop.example/quincunx/laws.FnListPush", spec := "fnListPush", recurses := true, apart := false, narrowed := true }
def FnListPushUptoSaid : Prop := fnListPushUptoRow.holds Try.pinned (OpenSpec.upto fnListPushSpec)

/-- 'laws.FnListPop', WHERE WHAT IT READS IS OF BULK AT MOST 1048576: true; the input reads as it did. -/
def fnListPopUptoRow : OpenClaim := { program := "ytjgnfneondlhhaa", sum := "aa99b3e87a9bef568901247743602247fb2e6f59e368672a4ba287d536ab9de2", func := "loop.example/quincunx/laws.FnListPop", spec := "fnListPop", recurses := true, apart := false, narrowed := true }
def FnListPopUptoSaid : Prop := fnListPopUptoRow.holds Try.pinned (OpenSpec.upto fnListPopSpec)

/-- 'laws.FnListRange', WHERE WHAT IT READS IS OF BULK AT MOST 1048576: true; the input reads as it did. -/
def fnListRangeUptoRow : OpenClaim := { program := "ytjgnfneondlhhaa", sum := "aa99b3e87a9bef568901247743602247fb2e6f59e368672a4ba287d536ab9de2", func := "loop.example/quincunx/laws.FnListRange", spec := "fnListRange", recurses := true, apart := false, narrowed := true }
def FnListRangeUptoSaid : Prop := fnListRangeUptoRow.holds Try.pinned (OpenSpec.upto fnListRangeSpec)

/-- 'laws.FnListSet', WHERE WHAT IT READS IS OF BULK AT MOST 1048576: true; the input reads as it did. -/
def fnListSetUptoRow : OpenClaim := { program := "ytjgnfneondlhhaa", sum := "aa99b3e87a9bef568901247743602247fb2e6f59e368672a4ba287d536ab9de2", func := "loop.example/quincunx/laws.FnListSet", spec := "fnListSet", recurses := true, apart := false, narrowed := true }
def FnListSetUptoSaid : Prop := fnListSetUptoRow.holds Try.pinned (OpenSpec.upto fnListSetSpec)

/-- 'laws.FnListDrop', WHERE WHAT IT READS IS OF BULK AT MOST 1048576: true; the input reads as it did. -/
def fnListDropUptoRow : OpenClaim := { program := "ytjgnfneondlhhaa", sum := "aa99b3e87a9bef568901247743602247fb2e6f59e368672a4ba287d536ab9de2", func := "loop.example/quincunx/laws.FnListDrop", spec := "fnListDrop", recurses := true, apart := false, narrowed := true }
def FnListDropUptoSaid : Prop := fnListDropUptoRow.holds Try.pinned (OpenSpec.upto fnListDropSpec)

end Rows
end Go.Proofs.Ytjgnfneondlhhaa
