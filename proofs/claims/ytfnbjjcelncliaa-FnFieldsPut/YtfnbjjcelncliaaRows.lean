/-
  No cell of these rows narrows 'for every input' (looked for: loops, veiled, ifaces, maps, wideKeys, modest, calm, conditions, laid).
  DERIVED. THE GIVEN ROWS OF THIS SEAT. 3 by the template 'for every input the law returns true; each argument reads behind the call as it read before'; 0 by the template 'total and deterministic' (their statements: YtfnbjjcelncliaaTotals.lean).
  GIVEN WITH THE SEED: the statements are not yours to turn. If you find one false, say at which input.
  Laid BY PROGRAM, IN A SANDBOX (cutbox-rows.mjs): the forced cells as the released guide's own fill.sh prints them over the translation 0c2437d44b391fd8… (all of the seat's roots in one cut). By AI agents, Wed Nov 11 2026. No macro, syntax, notation, axiom, sorry.
-/
import Derived.Test.YtfnbjjcelncliaaChecked
import GoSem.Claim
import GoSem.ClaimJoined
import GoSem.ClaimMapViews
import Derived.JoinedTies
import Derived.KernelRfl
namespace Go.Proofs.Ytfnbjjcelncliaa
/- THE CELL 'sum', in the pinned program and in every row, IS THE sha256 OF THE DUMP (.gsa) THAT YtfnbjjcelncliaaProg.lean LOADS. Nothing in Lean hashes anything: it is a label: what it is worth is what the hold of that sum in a sandbox is worth. -/
noncomputable def Try.pinned : Pinned := { name := "ytfnbjjcelncliaa", sum := "0c2437d44b391fd8450a43db6a0d9a7b8c0b573d096719a244898757c6caebd3", checked := Try.checked }
namespace Rows
def none {H : Type} : Left H := { results := [], args := [] }

/-- 'laws.FnScoresPut': WHATEVER THE INPUT: true; the input reads as it did. -/
def fnScoresPutSpec : ChangeSpec := { name := "fnScoresPut", fn := fun _ => fun
  | [d] => { results := [.lit (.bool true)], args := [d] }
  | _ => none }
def fnScoresPutRow : OpenClaim := { program := "ytfnbjjcelncliaa", sum := "0c2437d44b391fd8450a43db6a0d9a7b8c0b573d096719a244898757c6caebd3", func := "loop.example/quincunx/laws.FnScoresPut", spec := "fnScoresPut", inPlace := ["slices.overlaps[loop.example/quincunx/impl.Score]"], unfollowed := true, recurses := true, apart := false }
def FnScoresPutSaid : Prop := fnScoresPutRow.holds Try.pinned (OpenSpec.ofChange fnScoresPutSpec)

/-- ITS FALSE NEIGHBOUR: 'it returns false'. Refute it at one input. -/
def fnScoresPutWrong : ChangeSpec := { name := "fnScoresPut", fn := fun _ => fun
  | [d] => { results := [.lit (.bool false)], args := [d] }
  | _ => none }
def FnScoresPutWrongFalsely : Prop := fnScoresPutRow.holds Try.pinned (OpenSpec.ofChange fnScoresPutWrong)

/-- 'laws.FnFieldsPut': WHATEVER THE INPUT: true; the input reads as it did. -/
def fnFieldsPutSpec : ChangeSpec := { name := "fnFieldsPut", fn := fun _ => fun
  | [d] => { results := [.lit (.bool true)], args := [d] }
  | _ => none }
def fnFieldsPutRow : OpenClaim := { program := "ytfnbjjcelncliaa", sum := "0c2437d44b391fd8450a43db6a0d9a7b8c0b573d096719a244898757c6caebd3", func := "loop.example/quincunx/laws.FnFieldsPut", spec := "fnFieldsPut", inPlace := ["slices.overlaps[loop.example/quincunx/impl.Pair]"], unfollowed := true, recurses := true, apart := false }
def FnFieldsPutSaid : Prop := fnFieldsPutRow.holds Try.pinned (OpenSpec.ofChange fnFieldsPutSpec)

/-- ITS FALSE NEIGHBOUR: 'it returns false'. Refute it at one input. -/
def fnFieldsPutWrong : ChangeSpec := { name := "fnFieldsPut", fn := fun _ => fun
  | [d] => { results := [.lit (.bool false)], args := [d] }
  | _ => none }
def FnFieldsPutWrongFalsely : Prop := fnFieldsPutRow.holds Try.pinned (OpenSpec.ofChange fnFieldsPutWrong)

/-- 'laws.FnFieldsDrop': WHATEVER THE INPUT: true; the input reads as it did. -/
def fnFieldsDropSpec : ChangeSpec := { name := "fnFieldsDrop", fn := fun _ => fun
  | [d] => { results := [.lit (.bool true)], args := [d] }
  | _ => none }
def fnFieldsDropRow : OpenClaim := { program := "ytfnbjjcelncliaa", sum := "0c2437d44b391fd8450a43db6a0d9a7b8c0b573d096719a244898757c6caebd3", func := "loop.example/quincunx/laws.FnFieldsDrop", spec := "fnFieldsDrop", inPlace := ["slices.overlaps[loop.example/quincunx/impl.Pair]"], unfollowed := true, recurses := true, apart := false }
def FnFieldsDropSaid : Prop := fnFieldsDropRow.holds Try.pinned (OpenSpec.ofChange fnFieldsDropSpec)

/-- ITS FALSE NEIGHBOUR: 'it returns false'. Refute it at one input. -/
def fnFieldsDropWrong : ChangeSpec := { name := "fnFieldsDrop", fn := fun _ => fun
  | [d] => { results := [.lit (.bool false)], args := [d] }
  | _ => none }
def FnFieldsDropWrongFalsely : Prop := fnFieldsDropRow.holds Try.pinned (OpenSpec.ofChange fnFieldsDropWrong)

/- THE SECOND FORM. 'bulk': how many values and letters a reading holds, each counted each time it is reached (what is shared counts as often as it is met; a slice's spare places count too). A statement '..UptoSaid' is the law's where the arguments, and the package variables that the reading takes, are together of bulk at most 1048576: NARROWER than '..Said'. Prove '..Said' where nothing that the law and all that it calls make is longer than what came in: it says more and counts as full. Else prove '..UptoSaid'. A law counts once. -/
mutual
def uptoBulk {H : Type} : DataW H → Nat
  | .lit (.string bytes) => bytes.length + 1
  | .lit _ => 1
  | .nil => 1
  | .ptr d => uptoBulk d + 1
  | .slice elems spare => uptoBulkAll elems + uptoBulkAll spare + 1
  | .agg parts => uptoBulkAll parts + 1
  | .iface _ d => uptoBulk d + 1
  | .map entries => uptoBulkEntries entries + 1
  | .held _ => 1
def uptoBulkAll {H : Type} : List (DataW H) → Nat
  | [] => 0
  | d :: r => uptoBulk d + uptoBulkAll r
def uptoBulkEntries {H : Type} : List (Lit × DataW H) → Nat
  | [] => 0
  | x :: r => uptoBulkEntry x + uptoBulkEntries r
def uptoBulkEntry {H : Type} : Lit × DataW H → Nat
  | (.string bytes, d) => bytes.length + uptoBulk d + 1
  | (_, d) => uptoBulk d + 1
 end
def uptoSmall : (H : Type) → List (DataW H) → Bool := fun _ ds => decide (uptoBulkAll ds ≤ 1048576)
def OpenSpec.upto (s : _root_.Go.ChangeSpec) : _root_.Go.OpenSpec := { _root_.Go.OpenSpec.ofChange s with cond := some uptoSmall }

/-- 'laws.FnScoresPut', WHERE WHAT IT READS IS OF BULK AT MOST 1048576: true; the input reads as it did. -/
def fnScoresPutUptoRow : OpenClaim := { program := "ytfnbjjcelncliaa", sum := "0c2437d44b391fd8450a43db6a0d9a7b8c0b573d096719a244898757c6caebd3", func := "loop.example/quincunx/laws.FnScoresPut", spec := "fnScoresPut", inPlace := ["slices.overlaps[loop.example/quincunx/impl.Score]"], unfollowed := true, recurses := true, apart := false, narrowed := true }
def FnScoresPutUptoSaid : Prop := fnScoresPutUptoRow.holds Try.pinned (OpenSpec.upto fnScoresPutSpec)

/-- 'laws.FnFieldsPut', WHERE WHAT IT READS IS OF BULK AT MOST 1048576: true; the input reads as it did. -/
def fnFieldsPutUptoRow : OpenClaim := { program := "ytfnbjjcelncliaa", sum := "0c2437d44b391fd8450a43db6a0d9a7b8c0b573d096719a244898757c6caebd3", func := "loop.example/quincunx/laws.FnFieldsPut", spec := "fnFieldsPut", inPlace := ["slices.overlaps[loop.example/quincunx/impl.Pair]"], unfollowed := true, recurses := true, apart := false, narrowed := true }
def FnFieldsPutUptoSaid : Prop := fnFieldsPutUptoRow.holds Try.pinned (OpenSpec.upto fnFieldsPutSpec)

/-- 'laws.FnFieldsDrop', WHERE WHAT IT READS IS OF BULK AT MOST 1048576: true; the input reads as it did. -/
def fnFieldsDropUptoRow : OpenClaim := { program := "ytfnbjjcelncliaa", sum := "0c2437d44b391fd8450a43db6a0d9a7b8c0b573d096719a244898757c6caebd3", func := "loop.example/quincunx/laws.FnFieldsDrop", spec := "fnFieldsDrop", inPlace := ["slices.overlaps[loop.example/quincunx/impl.Pair]"], unfollowed := true, recurses := true, apart := false, narrowed := true }
def FnFieldsDropUptoSaid : Prop := fnFieldsDropUptoRow.holds Try.pinned (OpenSpec.upto fnFieldsDropSpec)

end Rows
end Go.Proofs.Ytfnbjjcelncliaa
