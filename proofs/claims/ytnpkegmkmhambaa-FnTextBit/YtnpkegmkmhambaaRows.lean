/-
  No cell of these rows narrows 'for every input' (looked for: loops, veiled, ifaces, maps, wideKeys, modest, calm, conditions, laid).
  DERIVED. THE GIVEN ROWS OF THIS SEAT. 3 by the template 'for every input the law returns true; each argument reads behind the call as it read before'; 0 by the template 'total and deterministic' (their statements: YtnpkegmkmhambaaTotals.lean).
  GIVEN WITH THE SEED: the statements are not yours to turn. If you find one false, say at which input.
  Laid BY PROGRAM, IN A SANDBOX (cutbox-rows.mjs): the forced cells as the released guide's own fill.sh prints them over the translation e7df032f4b7e0461… (all of the seat's roots in one cut). By AI agents, Wed Nov 11 2026. No macro, syntax, notation, axiom, sorry.
-/
import Derived.Test.YtnpkegmkmhambaaChecked
import GoSem.Claim
import GoSem.ClaimJoined
import GoSem.ClaimMapViews
import Derived.JoinedTies
import Derived.KernelRfl
namespace Go.Proofs.Ytnpkegmkmhambaa
/- THE CELL 'sum', in the pinned program and in every row, IS THE sha256 OF THE DUMP (.gsa) THAT YtnpkegmkmhambaaProg.lean LOADS. Nothing in Lean hashes anything: it is a label: what it is worth is what the hold of that sum in a sandbox is worth. -/
noncomputable def Try.pinned : Pinned := { name := "ytnpkegmkmhambaa", sum := "e7df032f4b7e04615e4a07b348518cbe03be49f697f6658f5445ee15bd0db582", checked := Try.checked }
namespace Rows
def none {H : Type} : Left H := { results := [], args := [] }

/-- 'laws.FnTextBit': WHATEVER THE INPUT: true; the input reads as it did. -/
def fnTextBitSpec : ChangeSpec := { name := "fnTextBit", fn := fun _ => fun
  | [d1, d2] => { results := [.lit (.bool true)], args := [d1, d2] }
  | _ => none }
def fnTextBitRow : OpenClaim := { program := "ytnpkegmkmhambaa", sum := "e7df032f4b7e04615e4a07b348518cbe03be49f697f6658f5445ee15bd0db582", func := "loop.example/quincunx/laws.FnTextBit", spec := "fnTextBit", inPlace := ["internal/abi.NoEscape", "internal/bytealg.MakeNoZero"], unfollowed := true, recurses := true, apart := false }
def FnTextBitSaid : Prop := fnTextBitRow.holds Try.pinned (OpenSpec.ofChange fnTextBitSpec)

/-- ITS FALSE NEIGHBOUR: 'it returns false'. Refute it at one input. -/
def fnTextBitWrong : ChangeSpec := { name := "fnTextBit", fn := fun _ => fun
  | [d1, d2] => { results := [.lit (.bool false)], args := [d1, d2] }
  | _ => none }
def FnTextBitWrongFalsely : Prop := fnTextBitRow.holds Try.pinned (OpenSpec.ofChange fnTextBitWrong)

/-- 'laws.FnTextBitCount': WHATEVER THE INPUT: true; the input reads as it did. -/
def fnTextBitCountSpec : ChangeSpec := { name := "fnTextBitCount", fn := fun _ => fun
  | [d1, d2] => { results := [.lit (.bool true)], args := [d1, d2] }
  | _ => none }
def fnTextBitCountRow : OpenClaim := { program := "ytnpkegmkmhambaa", sum := "e7df032f4b7e04615e4a07b348518cbe03be49f697f6658f5445ee15bd0db582", func := "loop.example/quincunx/laws.FnTextBitCount", spec := "fnTextBitCount", unfollowed := true, recurses := true, apart := false }
def FnTextBitCountSaid : Prop := fnTextBitCountRow.holds Try.pinned (OpenSpec.ofChange fnTextBitCountSpec)

/-- ITS FALSE NEIGHBOUR: 'it returns false'. Refute it at one input. -/
def fnTextBitCountWrong : ChangeSpec := { name := "fnTextBitCount", fn := fun _ => fun
  | [d1, d2] => { results := [.lit (.bool false)], args := [d1, d2] }
  | _ => none }
def FnTextBitCountWrongFalsely : Prop := fnTextBitCountRow.holds Try.pinned (OpenSpec.ofChange fnTextBitCountWrong)

/-- 'laws.FnTextBitFind': WHATEVER THE INPUT: true; the input reads as it did. -/
def fnTextBitFindSpec : ChangeSpec := { name := "fnTextBitFind", fn := fun _ => fun
  | [d] => { results := [.lit (.bool true)], args := [d] }
  | _ => none }
def fnTextBitFindRow : OpenClaim := { program := "ytnpkegmkmhambaa", sum := "e7df032f4b7e04615e4a07b348518cbe03be49f697f6658f5445ee15bd0db582", func := "loop.example/quincunx/laws.FnTextBitFind", spec := "fnTextBitFind", unfollowed := true, recurses := true, apart := false }
def FnTextBitFindSaid : Prop := fnTextBitFindRow.holds Try.pinned (OpenSpec.ofChange fnTextBitFindSpec)

/-- ITS FALSE NEIGHBOUR: 'it returns false'. Refute it at one input. -/
def fnTextBitFindWrong : ChangeSpec := { name := "fnTextBitFind", fn := fun _ => fun
  | [d] => { results := [.lit (.bool false)], args := [d] }
  | _ => none }
def FnTextBitFindWrongFalsely : Prop := fnTextBitFindRow.holds Try.pinned (OpenSpec.ofChange fnTextBitFindWrong)

/- THE SECOND FORM. 'bulk': how many values and letters a reading holds, each counted each time it is reached (what is shared counts as often as it is met; a slice's spare places count too). A statement '..UptoSaid' is the law's where the arguments, and the package variables that the reading takes, are together of bulk at most 1048576: NARROWER than '..Said'. Prove '..Said' where nothing that the law and all that it calls make is longer than what came in: it says more and counts as full. Else prove '..UptoSaid'. A law counts once. -/
mutual
def uptoBulk {H : Type} : DataW H → Nat
  | .lit (.string bytes) => bytes.length + 1
  | .lit _ => 1
  | .nil => 1
  | .ptr d => uptoBulk d + 1
  | .slice elems spare => uptoBulkAll elems + uptoBulkAll spare + 1
  | .agg parts => uptoBulkAll parts + 1
  | .iface _ d => uptoBulk d + 1
  | .map entries => uptoBulkEntries entries + 1
  | .held _ => 1
def uptoBulkAll {H : Type} : List (DataW H) → Nat
  | [] => 0
  | d :: r => uptoBulk d + uptoBulkAll r
def uptoBulkEntries {H : Type} : List (Lit × DataW H) → Nat
  | [] => 0
  | x :: r => uptoBulkEntry x + uptoBulkEntries r
def uptoBulkEntry {H : Type} : Lit × DataW H → Nat
  | (.string bytes, d) => bytes.length + uptoBulk d + 1
  | (_, d) => uptoBulk d + 1
 end
def uptoSmall : (H : Type) → List (DataW H) → Bool := fun _ ds => decide (uptoBulkAll ds ≤ 1048576)
def OpenSpec.upto (s : _root_.Go.ChangeSpec) : _root_.Go.OpenSpec := { _root_.Go.OpenSpec.ofChange s with cond := some uptoSmall }

/-- 'laws.FnTextBit', WHERE WHAT IT READS IS OF BULK AT MOST 1048576: true; the input reads as it did. -/
def fnTextBitUptoRow : OpenClaim := { program := "ytnpkegmkmhambaa", sum := "e7df032f4b7e04615e4a07b348518cbe03be49f697f6658f5445ee15bd0db582", func := "loop.example/quincunx/laws.FnTextBit", spec := "fnTextBit", inPlace := ["internal/abi.NoEscape", "internal/bytealg.MakeNoZero"], unfollowed := true, recurses := true, apart := false, narrowed := true }
def FnTextBitUptoSaid : Prop := fnTextBitUptoRow.holds Try.pinned (OpenSpec.upto fnTextBitSpec)

/-- 'laws.FnTextBitCount', WHERE WHAT IT READS IS OF BULK AT MOST 1048576: true; the input reads as it did. -/
def fnTextBitCountUptoRow : OpenClaim := { program := "ytnpkegmkmhambaa", sum := "e7df032f4b7e04615e4a07b348518cbe03be49f697f6658f5445ee15bd0db582", func := "loop.example/quincunx/laws.FnTextBitCount", spec := "fnTextBitCount", unfollowed := true, recurses := true, apart := false, narrowed := true }
def FnTextBitCountUptoSaid : Prop := fnTextBitCountUptoRow.holds Try.pinned (OpenSpec.upto fnTextBitCountSpec)

/-- 'laws.FnTextBitFind', WHERE WHAT IT READS IS OF BULK AT MOST 1048576: true; the input reads as it did. -/
def fnTextBitFindUptoRow : OpenClaim := { program := "ytnpkegmkmhambaa", sum := "e7df032f4b7e04615e4a07b348518cbe03be49f697f6658f5445ee15bd0db582", func := "loop.example/quincunx/laws.FnTextBitFind", spec := "fnTextBitFind", unfollowed := true, recurses := true, apart := false, narrowed := true }
def FnTextBitFindUptoSaid : Prop := fnTextBitFindUptoRow.holds Try.pinned (OpenSpec.upto fnTextBitFindSpec)

end Rows
end Go.Proofs.Ytnpkegmkmhambaa
