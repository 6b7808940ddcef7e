/-
  No cell of these rows narrows 'for every input' (looked for: loops, veiled, ifaces, maps, wideKeys, modest, calm, conditions, laid).
  DERIVED. THE GIVEN ROWS OF THIS SEAT. 5 by the template 'for every input the law returns true; each argument reads behind the call as it read before'; 0 by the template 'total and deterministic' (their statements: YtbkllceceaedpaaTotals.lean).
  GIVEN WITH THE SEED: the statements are not yours to turn. If you find one false, say at which input.
  Laid BY PROGRAM, IN A SANDBOX (cutbox-rows.mjs): the forced cells as the released guide's own fill.sh prints them over the translation 3fe98f1737f18d81… (all of the seat's roots in one cut). By AI agents, Wed Nov 11 2026. No macro, syntax, notation, axiom, sorry.
-/
import Derived.Test.YtbkllceceaedpaaChecked
import GoSem.Claim
import GoSem.ClaimJoined
import GoSem.ClaimMapViews
import Derived.JoinedTies
import Derived.KernelRfl
namespace Go.Proofs.Ytbkllceceaedpaa
/- THE CELL 'sum', in the pinned program and in every row, IS THE sha256 OF THE DUMP (.gsa) THAT YtbkllceceaedpaaProg.lean LOADS. Nothing in Lean hashes anything: it is a label: what it is worth is what the hold of that sum in a sandbox is worth. -/
noncomputable def Try.pinned : Pinned := { name := "ytbkllceceaedpaa", sum := "3fe98f1737f18d8116704b4083646109b2a99a562819ca2cfaa22f7aa6a5190e", checked := Try.checked }
namespace Rows
def none {H : Type} : Left H := { results := [], args := [] }

/-- 'laws.FnExactStreamOk': WHATEVER THE INPUT: true; the input reads as it did. -/
def fnExactStreamOkSpec : ChangeSpec := { name := "fnExactStreamOk", fn := fun _ => fun
  | [d] => { results := [.lit (.bool true)], args := [d] }
  | _ => none }
def fnExactStreamOkRow : OpenClaim := { program := "ytbkllceceaedpaa", sum := "3fe98f1737f18d8116704b4083646109b2a99a562819ca2cfaa22f7aa6a5190e", func := "loop.example/quincunx/laws.FnExactStreamOk", spec := "fnExactStreamOk", inPlace := ["internal/bytealg.abigen_runtime_cmpstring"], unfollowed := true, recurses := true, apart := false }
def FnExactStreamOkSaid : Prop := fnExactStreamOkRow.holds Try.pinned (OpenSpec.ofChange fnExactStreamOkSpec)

/-- ITS FALSE NEIGHBOUR: 'it returns false'. Refute it at one input. -/
def fnExactStreamOkWrong : ChangeSpec := { name := "fnExactStreamOk", fn := fun _ => fun
  | [d] => { results := [.lit (.bool false)], args := [d] }
  | _ => none }
def FnExactStreamOkWrongFalsely : Prop := fnExactStreamOkRow.holds Try.pinned (OpenSpec.ofChange fnExactStreamOkWrong)

/-- 'laws.FnExactStreamRange': WHATEVER THE INPUT: true; the input reads as it did. -/
def fnExactStreamRangeSpec : ChangeSpec := { name := "fnExactStreamRange", fn := fun _ => fun
  | [d1, d2, d3, d4] => { results := [.lit (.bool true)], args := [d1, d2, d3, d4] }
  | _ => none }
def fnExactStreamRangeRow : OpenClaim := { program := "ytbkllceceaedpaa", sum := "3fe98f1737f18d8116704b4083646109b2a99a562819ca2cfaa22f7aa6a5190e", func := "loop.example/quincunx/laws.FnExactStreamRange", spec := "fnExactStreamRange", inPlace := ["internal/bytealg.abigen_runtime_cmpstring"], unfollowed := true, recurses := true, apart := false }
def FnExactStreamRangeSaid : Prop := fnExactStreamRangeRow.holds Try.pinned (OpenSpec.ofChange fnExactStreamRangeSpec)

/-- ITS FALSE NEIGHBOUR: 'it returns false'. Refute it at one input. -/
def fnExactStreamRangeWrong : ChangeSpec := { name := "fnExactStreamRange", fn := fun _ => fun
  | [d1, d2, d3, d4] => { results := [.lit (.bool false)], args := [d1, d2, d3, d4] }
  | _ => none }
def FnExactStreamRangeWrongFalsely : Prop := fnExactStreamRangeRow.holds Try.pinned (OpenSpec.ofChange fnExactStreamRangeWrong)

/-- 'laws.FnExactStreamTrim': WHATEVER THE INPUT: true; the input reads as it did. -/
def fnExactStreamTrimSpec : ChangeSpec := { name := "fnExactStreamTrim", fn := fun _ => fun
  | [d1, d2] => { results := [.lit (.bool true)], args := [d1, d2] }
  | _ => none }
def fnExactStreamTrimRow : OpenClaim := { program := "ytbkllceceaedpaa", sum := "3fe98f1737f18d8116704b4083646109b2a99a562819ca2cfaa22f7aa6a5190e", func := "loop.example/quincunx/laws.FnExactStreamTrim", spec := "fnExactStreamTrim", inPlace := ["internal/bytealg.abigen_runtime_cmpstring"], unfollowed := true, recurses := true, apart := false }
def FnExactStreamTrimSaid : Prop := fnExactStreamTrimRow.holds Try.pinned (OpenSpec.ofChange fnExactStreamTrimSpec)

/-- ITS FALSE NEIGHBOUR: 'it returns false'. Refute it at one input. -/
def fnExactStreamTrimWrong : ChangeSpec := { name := "fnExactStreamTrim", fn := fun _ => fun
  | [d1, d2] => { results := [.lit (.bool false)], args := [d1, d2] }
  | _ => none }
def FnExactStreamTrimWrongFalsely : Prop := fnExactStreamTrimRow.holds Try.pinned (OpenSpec.ofChange fnExactStreamTrimWrong)

/-- 'laws.FnExactStreamDrop': WHATEVER THE INPUT: true; the input reads as it did. -/
def fnExactStreamDropSpec : ChangeSpec := { name := "fnExactStreamDrop", fn := fun _ => fun
  | [d1, d2] => { results := [.lit (.bool true)], args := [d1, d2] }
  | _ => none }
def fnExactStreamDropRow : OpenClaim := { program := "ytbkllceceaedpaa", sum := "3fe98f1737f18d8116704b4083646109b2a99a562819ca2cfaa22f7aa6a5190e", func := "loop.example/quincunx/laws.FnExactStreamDrop", spec := "fnExactStreamDrop", inPlace := ["internal/bytealg.abigen_runtime_cmpstring"], unfollowed := true, recurses := true, apart := false }
def FnExactStreamDropSaid : Prop := fnExactStreamDropRow.holds Try.pinned (OpenSpec.ofChange fnExactStreamDropSpec)

/-- ITS FALSE NEIGHBOUR: 'it returns false'. Refute it at one input. -/
def fnExactStreamDropWrong : ChangeSpec := { name := "fnExactStreamDrop", fn := fun _ => fun
  | [d1, d2] => { results := [.lit (.bool false)], args := [d1, d2] }
  | _ => none }
def FnExactStreamDropWrongFalsely : Prop := fnExactStreamDropRow.holds Try.pinned (OpenSpec.ofChange fnExactStreamDropWrong)

/-- 'laws.FnExactGroupWaits': WHATEVER THE INPUT: true; the input reads as it did. -/
def fnExactGroupWaitsSpec : ChangeSpec := { name := "fnExactGroupWaits", fn := fun _ => fun
  | [d1, d2, d3] => { results := [.lit (.bool true)], args := [d1, d2, d3] }
  | _ => none }
def fnExactGroupWaitsRow : OpenClaim := { program := "ytbkllceceaedpaa", sum := "3fe98f1737f18d8116704b4083646109b2a99a562819ca2cfaa22f7aa6a5190e", func := "loop.example/quincunx/laws.FnExactGroupWaits", spec := "fnExactGroupWaits", inPlace := ["internal/bytealg.abigen_runtime_cmpstring"], unfollowed := true, recurses := true, apart := false }
def FnExactGroupWaitsSaid : Prop := fnExactGroupWaitsRow.holds Try.pinned (OpenSpec.ofChange fnExactGroupWaitsSpec)

/-- ITS FALSE NEIGHBOUR: 'it returns false'. Refute it at one input. -/
def fnExactGroupWaitsWrong : ChangeSpec := { name := "fnExactGroupWaits", fn := fun _ => fun
  | [d1, d2, d3] => { results := [.lit (.bool false)], args := [d1, d2, d3] }
  | _ => none }
def FnExactGroupWaitsWrongFalsely : Prop := fnExactGroupWaitsRow.holds Try.pinned (OpenSpec.ofChange fnExactGroupWaitsWrong)

/- THE SECOND FORM. 'bulk': how many values and letters a reading holds, each counted each time it is reached (what is shared counts as often as it is met; a slice's spare places count too). A statement '..UptoSaid' is the law's where the arguments, and the package variables that the reading takes, are together of bulk at most 1048576: NARROWER than '..Said'. Prove '..Said' where nothing that the law and all that it calls make is longer than what came in: it says more and counts as full. Else prove '..UptoSaid'. A law counts once. -/
mutual
def uptoBulk {H : Type} : DataW H → Nat
  | .lit (.string bytes) => bytes.length + 1
  | .lit _ => 1
  | .nil => 1
  | .ptr d => uptoBulk d + 1
  | .slice elems spare => uptoBulkAll elems + uptoBulkAll spare + 1
  | .agg parts => uptoBulkAll parts + 1
  | .iface _ d => uptoBulk d + 1
  | .map entries => uptoBulkEntries entries + 1
  | .held _ => 1
def uptoBulkAll {H : Type} : List (DataW H) → Nat
  | [] => 0
  | d :: r => uptoBulk d + uptoBulkAll r
def uptoBulkEntries {H : Type} : List (Lit × DataW H) → Nat
  | [] => 0
  | x :: r => uptoBulkEntry x + uptoBulkEntries r
def uptoBulkEntry {H : Type} : Lit × DataW H → Nat
  | (.string bytes, d) => bytes.length + uptoBulk d + 1
  | (_, d) => uptoBulk d + 1
 end
def uptoSmall : (H : Type) → List (DataW H) → Bool := fun _ ds => decide (uptoBulkAll ds ≤ 1048576)
def OpenSpec.upto (s : _root_.Go.ChangeSpec) : _root_.Go.OpenSpec := { _root_.Go.OpenSpec.ofChange s with cond := some uptoSmall }

/-- 'laws.FnExactStreamOk', WHERE WHAT IT READS IS OF BULK AT MOST 1048576: true; the input reads as it did. -/
def fnExactStreamOkUptoRow : OpenClaim := { program := "ytbkllceceaedpaa", sum := "3fe98f1737f18d8116704b4083646109b2a99a562819ca2cfaa22f7aa6a5190e", func := "loop.example/quincunx/laws.FnExactStreamOk", spec := "fnExactStreamOk", inPlace := ["internal/bytealg.abigen_runtime_cmpstring"], unfollowed := true, recurses := true, apart := false, narrowed := true }
def FnExactStreamOkUptoSaid : Prop := fnExactStreamOkUptoRow.holds Try.pinned (OpenSpec.upto fnExactStreamOkSpec)

/-- 'laws.FnExactStreamRange', WHERE WHAT IT READS IS OF BULK AT MOST 1048576: true; the input reads as it did. -/
def fnExactStreamRangeUptoRow : OpenClaim := { program := "ytbkllceceaedpaa", sum := "3fe98f1737f18d8116704b4083646109b2a99a562819ca2cfaa22f7aa6a5190e", func := "loop.example/quincunx/laws.FnExactStreamRange", spec := "fnExactStreamRange", inPlace := ["internal/bytealg.abigen_runtime_cmpstring"], unfollowed := true, recurses := true, apart := false, narrowed := true }
def FnExactStreamRangeUptoSaid : Prop := fnExactStreamRangeUptoRow.holds Try.pinned (OpenSpec.upto fnExactStreamRangeSpec)

/-- 'laws.FnExactStreamTrim', WHERE WHAT IT READS IS OF BULK AT MOST 1048576: true; the input reads as it did. -/
def fnExactStreamTrimUptoRow : OpenClaim := { program := "ytbkllceceaedpaa", sum := "3fe98f1737f18d8116704b4083646109b2a99a562819ca2cfaa22f7aa6a5190e", func := "loop.example/quincunx/laws.FnExactStreamTrim", spec := "fnExactStreamTrim", inPlace := ["internal/bytealg.abigen_runtime_cmpstring"], unfollowed := true, recurses := true, apart := false, narrowed := true }
def FnExactStreamTrimUptoSaid : Prop := fnExactStreamTrimUptoRow.holds Try.pinned (OpenSpec.upto fnExactStreamTrimSpec)

/-- 'laws.FnExactStreamDrop', WHERE WHAT IT READS IS OF BULK AT MOST 1048576: true; the input reads as it did. -/
def fnExactStreamDropUptoRow : OpenClaim := { program := "ytbkllceceaedpaa", sum := "3fe98f1737f18d8116704b4083646109b2a99a562819ca2cfaa22f7aa6a5190e", func := "loop.example/quincunx/laws.FnExactStreamDrop", spec := "fnExactStreamDrop", inPlace := ["internal/bytealg.abigen_runtime_cmpstring"], unfollowed := true, recurses := true, apart := false, narrowed := true }
def FnExactStreamDropUptoSaid : Prop := fnExactStreamDropUptoRow.holds Try.pinned (OpenSpec.upto fnExactStreamDropSpec)

/-- 'laws.FnExactGroupWaits', WHERE WHAT IT READS IS OF BULK AT MOST 1048576: true; the input reads as it did. -/
def fnExactGroupWaitsUptoRow : OpenClaim := { program := "ytbkllceceaedpaa", sum := "3fe98f1737f18d8116704b4083646109b2a99a562819ca2cfaa22f7aa6a5190e", func := "loop.example/quincunx/laws.FnExactGroupWaits", spec := "fnExactGroupWaits", inPlace := ["internal/bytealg.abigen_runtime_cmpstring"], unfollowed := true, recurses := true, apart := false, narrowed := true }
def FnExactGroupWaitsUptoSaid : Prop := fnExactGroupWaitsUptoRow.holds Try.pinned (OpenSpec.upto fnExactGroupWaitsSpec)

end Rows
end Go.Proofs.Ytbkllceceaedpaa
