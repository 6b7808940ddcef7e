/-
  No cell of these rows narrows 'for every input' (looked for: loops, veiled, ifaces, maps, wideKeys, modest, calm, conditions, laid).
  DERIVED. THE GIVEN ROWS OF THIS SEAT. 10 by the template 'for every input the law returns true; each argument reads behind the call as it read before'; 0 by the template 'total and deterministic' (their statements: YtjhlpblegbaemaaTotals.lean).
  GIVEN WITH THE SEED: the statements are not yours to turn. If you find one false, say at which input.
  Laid BY PROGRAM, IN A SANDBOX (cutbox-rows.mjs): the forced cells as the released guide's own fill.sh prints them over the translation 14ab6c7aff91e4c4… (all of the seat's roots in one cut). By AI agents, Wed Nov 11 2026. No macro, syntax, notation, axiom, sorry.
-/
import Derived.Test.YtjhlpblegbaemaaChecked
import GoSem.Claim
import GoSem.ClaimJoined
import GoSem.ClaimMapViews
import Derived.JoinedTies
import Derived.KernelRfl
namespace Go.Proofs.Ytjhlpblegbaemaa
/- THE CELL 'sum', in the pinned program and in every row, IS THE sha256 OF THE DUMP (.gsa) THAT YtjhlpblegbaemaaProg.lean LOADS. Nothing in Lean hashes anything: it is a label: what it is worth is what the hold of that sum in a sandbox is worth. -/
noncomputable def Try.pinned : Pinned := { name := "ytjhlpblegbaemaa", sum := "14ab6c7aff91e4c40a1473eaf3bbdf805969d627d6387f0185993f530f6c6799", checked := Try.checked }
namespace Rows
def none {H : Type} : Left H := { results := [], args := [] }

/-- 'laws.FnExactScoresOk': WHATEVER THE INPUT: true; the input reads as it did. -/
def fnExactScoresOkSpec : ChangeSpec := { name := "fnExactScoresOk", fn := fun _ => fun
  | [d] => { results := [.lit (.bool true)], args := [d] }
  | _ => none }
def fnExactScoresOkRow : OpenClaim := { program := "ytjhlpblegbaemaa", sum := "14ab6c7aff91e4c40a1473eaf3bbdf805969d627d6387f0185993f530f6c6799", func := "loop.example/quincunx/laws.FnExactScoresOk", spec := "fnExactScoresOk", unfollowed := true, recurses := true, apart := false }
def FnExactScoresOkSaid : Prop := fnExactScoresOkRow.holds Try.pinned (OpenSpec.ofChange fnExactScoresOkSpec)

/-- ITS FALSE NEIGHBOUR: 'it returns false'. Refute it at one input. -/
def fnExactScoresOkWrong : ChangeSpec := { name := "fnExactScoresOk", fn := fun _ => fun
  | [d] => { results := [.lit (.bool false)], args := [d] }
  | _ => none }
def FnExactScoresOkWrongFalsely : Prop := fnExactScoresOkRow.holds Try.pinned (OpenSpec.ofChange fnExactScoresOkWrong)

/-- 'laws.FnExactScoresPut': WHATEVER THE INPUT: true; the input reads as it did. -/
def fnExactScoresPutSpec : ChangeSpec := { name := "fnExactScoresPut", fn := fun _ => fun
  | [d1, d2] => { results := [.lit (.bool true)], args := [d1, d2] }
  | _ => none }
def fnExactScoresPutRow : OpenClaim := { program := "ytjhlpblegbaemaa", sum := "14ab6c7aff91e4c40a1473eaf3bbdf805969d627d6387f0185993f530f6c6799", func := "loop.example/quincunx/laws.FnExactScoresPut", spec := "fnExactScoresPut", inPlace := ["slices.overlaps[loop.example/quincunx/impl.Score]"], unfollowed := true, recurses := true, apart := false }
def FnExactScoresPutSaid : Prop := fnExactScoresPutRow.holds Try.pinned (OpenSpec.ofChange fnExactScoresPutSpec)

/-- ITS FALSE NEIGHBOUR: 'it returns false'. Refute it at one input. -/
def fnExactScoresPutWrong : ChangeSpec := { name := "fnExactScoresPut", fn := fun _ => fun
  | [d1, d2] => { results := [.lit (.bool false)], args := [d1, d2] }
  | _ => none }
def FnExactScoresPutWrongFalsely : Prop := fnExactScoresPutRow.holds Try.pinned (OpenSpec.ofChange fnExactScoresPutWrong)

/-- 'laws.FnExactScoresDrop': WHATEVER THE INPUT: true; the input reads as it did. -/
def fnExactScoresDropSpec : ChangeSpec := { name := "fnExactScoresDrop", fn := fun _ => fun
  | [d1, d2] => { results := [.lit (.bool true)], args := [d1, d2] }
  | _ => none }
def fnExactScoresDropRow : OpenClaim := { program := "ytjhlpblegbaemaa", sum := "14ab6c7aff91e4c40a1473eaf3bbdf805969d627d6387f0185993f530f6c6799", func := "loop.example/quincunx/laws.FnExactScoresDrop", spec := "fnExactScoresDrop", unfollowed := true, recurses := true, apart := false }
def FnExactScoresDropSaid : Prop := fnExactScoresDropRow.holds Try.pinned (OpenSpec.ofChange fnExactScoresDropSpec)

/-- ITS FALSE NEIGHBOUR: 'it returns false'. Refute it at one input. -/
def fnExactScoresDropWrong : ChangeSpec := { name := "fnExactScoresDrop", fn := fun _ => fun
  | [d1, d2] => { results := [.lit (.bool false)], args := [d1, d2] }
  | _ => none }
def FnExactScoresDropWrongFalsely : Prop := fnExactScoresDropRow.holds Try.pinned (OpenSpec.ofChange fnExactScoresDropWrong)

/-- 'laws.FnExactScoresRank': WHATEVER THE INPUT: true; the input reads as it did. -/
def fnExactScoresRankSpec : ChangeSpec := { name := "fnExactScoresRank", fn := fun _ => fun
  | [d1, d2] => { results := [.lit (.bool true)], args := [d1, d2] }
  | _ => none }
def fnExactScoresRankRow : OpenClaim := { program := "ytjhlpblegbaemaa", sum := "14ab6c7aff91e4c40a1473eaf3bbdf805969d627d6387f0185993f530f6c6799", func := "loop.example/quincunx/laws.FnExactScoresRank", spec := "fnExactScoresRank", unfollowed := true, recurses := true, apart := false }
def FnExactScoresRankSaid : Prop := fnExactScoresRankRow.holds Try.pinned (OpenSpec.ofChange fnExactScoresRankSpec)

/-- ITS FALSE NEIGHBOUR: 'it returns false'. Refute it at one input. -/
def fnExactScoresRankWrong : ChangeSpec := { name := "fnExactScoresRank", fn := fun _ => fun
  | [d1, d2] => { results := [.lit (.bool false)], args := [d1, d2] }
  | _ => none }
def FnExactScoresRankWrongFalsely : Prop := fnExactScoresRankRow.holds Try.pinned (OpenSpec.ofChange fnExactScoresRankWrong)

/-- 'laws.FnExactScoresAt': WHATEVER THE INPUT: true; the input reads as it did. -/
def fnExactScoresAtSpec : ChangeSpec := { name := "fnExactScoresAt", fn := fun _ => fun
  | [d1, d2, d3] => { results := [.lit (.bool true)], args := [d1, d2, d3] }
  | _ => none }
def fnExactScoresAtRow : OpenClaim := { program := "ytjhlpblegbaemaa", sum := "14ab6c7aff91e4c40a1473eaf3bbdf805969d627d6387f0185993f530f6c6799", func := "loop.example/quincunx/laws.FnExactScoresAt", spec := "fnExactScoresAt", unfollowed := true, recurses := true, apart := false }
def FnExactScoresAtSaid : Prop := fnExactScoresAtRow.holds Try.pinned (OpenSpec.ofChange fnExactScoresAtSpec)

/-- ITS FALSE NEIGHBOUR: 'it returns false'. Refute it at one input. -/
def fnExactScoresAtWrong : ChangeSpec := { name := "fnExactScoresAt", fn := fun _ => fun
  | [d1, d2, d3] => { results := [.lit (.bool false)], args := [d1, d2, d3] }
  | _ => none }
def FnExactScoresAtWrongFalsely : Prop := fnExactScoresAtRow.holds Try.pinned (OpenSpec.ofChange fnExactScoresAtWrong)

/-- 'laws.FnExactScoresBy': WHATEVER THE INPUT: true; the input reads as it did. -/
def fnExactScoresBySpec : ChangeSpec := { name := "fnExactScoresBy", fn := fun _ => fun
  | [d1, d2, d3] => { results := [.lit (.bool true)], args := [d1, d2, d3] }
  | _ => none }
def fnExactScoresByRow : OpenClaim := { program := "ytjhlpblegbaemaa", sum := "14ab6c7aff91e4c40a1473eaf3bbdf805969d627d6387f0185993f530f6c6799", func := "loop.example/quincunx/laws.FnExactScoresBy", spec := "fnExactScoresBy", unfollowed := true, recurses := true, apart := false }
def FnExactScoresBySaid : Prop := fnExactScoresByRow.holds Try.pinned (OpenSpec.ofChange fnExactScoresBySpec)

/-- ITS FALSE NEIGHBOUR: 'it returns false'. Refute it at one input. -/
def fnExactScoresByWrong : ChangeSpec := { name := "fnExactScoresBy", fn := fun _ => fun
  | [d1, d2, d3] => { results := [.lit (.bool false)], args := [d1, d2, d3] }
  | _ => none }
def FnExactScoresByWrongFalsely : Prop := fnExactScoresByRow.holds Try.pinned (OpenSpec.ofChange fnExactScoresByWrong)

/-- 'laws.FnExactFieldsOk': WHATEVER THE INPUT: true; the input reads as it did. -/
def fnExactFieldsOkSpec : ChangeSpec := { name := "fnExactFieldsOk", fn := fun _ => fun
  | [d] => { results := [.lit (.bool true)], args := [d] }
  | _ => none }
def fnExactFieldsOkRow : OpenClaim := { program := "ytjhlpblegbaemaa", sum := "14ab6c7aff91e4c40a1473eaf3bbdf805969d627d6387f0185993f530f6c6799", func := "loop.example/quincunx/laws.FnExactFieldsOk", spec := "fnExactFieldsOk", unfollowed := true, recurses := true, apart := false }
def FnExactFieldsOkSaid : Prop := fnExactFieldsOkRow.holds Try.pinned (OpenSpec.ofChange fnExactFieldsOkSpec)

/-- ITS FALSE NEIGHBOUR: 'it returns false'. Refute it at one input. -/
def fnExactFieldsOkWrong : ChangeSpec := { name := "fnExactFieldsOk", fn := fun _ => fun
  | [d] => { results := [.lit (.bool false)], args := [d] }
  | _ => none }
def FnExactFieldsOkWrongFalsely : Prop := fnExactFieldsOkRow.holds Try.pinned (OpenSpec.ofChange fnExactFieldsOkWrong)

/-- 'laws.FnExactFieldsPut': WHATEVER THE INPUT: true; the input reads as it did. -/
def fnExactFieldsPutSpec : ChangeSpec := { name := "fnExactFieldsPut", fn := fun _ => fun
  | [d1, d2] => { results := [.lit (.bool true)], args := [d1, d2] }
  | _ => none }
def fnExactFieldsPutRow : OpenClaim := { program := "ytjhlpblegbaemaa", sum := "14ab6c7aff91e4c40a1473eaf3bbdf805969d627d6387f0185993f530f6c6799", func := "loop.example/quincunx/laws.FnExactFieldsPut", spec := "fnExactFieldsPut", inPlace := ["slices.overlaps[loop.example/quincunx/impl.Pair]"], unfollowed := true, recurses := true, apart := false }
def FnExactFieldsPutSaid : Prop := fnExactFieldsPutRow.holds Try.pinned (OpenSpec.ofChange fnExactFieldsPutSpec)

/-- ITS FALSE NEIGHBOUR: 'it returns false'. Refute it at one input. -/
def fnExactFieldsPutWrong : ChangeSpec := { name := "fnExactFieldsPut", fn := fun _ => fun
  | [d1, d2] => { results := [.lit (.bool false)], args := [d1, d2] }
  | _ => none }
def FnExactFieldsPutWrongFalsely : Prop := fnExactFieldsPutRow.holds Try.pinned (OpenSpec.ofChange fnExactFieldsPutWrong)

/-- 'laws.FnExactFieldsDrop': WHATEVER THE INPUT: true; the input reads as it did. -/
def fnExactFieldsDropSpec : ChangeSpec := { name := "fnExactFieldsDrop", fn := fun _ => fun
  | [d1, d2] => { results := [.lit (.bool true)], args := [d1, d2] }
  | _ => none }
def fnExactFieldsDropRow : OpenClaim := { program := "ytjhlpblegbaemaa", sum := "14ab6c7aff91e4c40a1473eaf3bbdf805969d627d6387f0185993f530f6c6799", func := "loop.example/quincunx/laws.FnExactFieldsDrop", spec := "fnExactFieldsDrop", unfollowed := true, recurses := true, apart := false }
def FnExactFieldsDropSaid : Prop := fnExactFieldsDropRow.holds Try.pinned (OpenSpec.ofChange fnExactFieldsDropSpec)

/-- ITS FALSE NEIGHBOUR: 'it returns false'. Refute it at one input. -/
def fnExactFieldsDropWrong : ChangeSpec := { name := "fnExactFieldsDrop", fn := fun _ => fun
  | [d1, d2] => { results := [.lit (.bool false)], args := [d1, d2] }
  | _ => none }
def FnExactFieldsDropWrongFalsely : Prop := fnExactFieldsDropRow.holds Try.pinned (OpenSpec.ofChange fnExactFieldsDropWrong)

/-- 'laws.FnExactFieldsGet': WHATEVER THE INPUT: true; the input reads as it did. -/
def fnExactFieldsGetSpec : ChangeSpec := { name := "fnExactFieldsGet", fn := fun _ => fun
  | [d1, d2] => { results := [.lit (.bool true)], args := [d1, d2] }
  | _ => none }
def fnExactFieldsGetRow : OpenClaim := { program := "ytjhlpblegbaemaa", sum := "14ab6c7aff91e4c40a1473eaf3bbdf805969d627d6387f0185993f530f6c6799", func := "loop.example/quincunx/laws.FnExactFieldsGet", spec := "fnExactFieldsGet", unfollowed := true, recurses := true, apart := false }
def FnExactFieldsGetSaid : Prop := fnExactFieldsGetRow.holds Try.pinned (OpenSpec.ofChange fnExactFieldsGetSpec)

/-- ITS FALSE NEIGHBOUR: 'it returns false'. Refute it at one input. -/
def fnExactFieldsGetWrong : ChangeSpec := { name := "fnExactFieldsGet", fn := fun _ => fun
  | [d1, d2] => { results := [.lit (.bool false)], args := [d1, d2] }
  | _ => none }
def FnExactFieldsGetWrongFalsely : Prop := fnExactFieldsGetRow.holds Try.pinned (OpenSpec.ofChange fnExactFieldsGetWrong)

/- THE SECOND FORM. 'bulk': how many values and letters a reading holds, each counted each time it is reached (what is shared counts as often as it is met; a slice's spare places count too). A statement '..UptoSaid' is the law's where the arguments, and the package variables that the reading takes, are together of bulk at most 1048576: NARROWER than '..Said'. Prove '..Said' where nothing that the law and all that it calls make is longer than what came in: it says more and counts as full. Else prove '..UptoSaid'. A law counts once. -/
mutual
def uptoBulk {H : Type} : DataW H → Nat
  | .lit (.string bytes) => bytes.length + 1
  | .lit _ => 1
  | .nil => 1
  | .ptr d => uptoBulk d + 1
  | .slice elems spare => uptoBulkAll elems + uptoBulkAll spare + 1
  | .agg parts => uptoBulkAll parts + 1
  | .iface _ d => uptoBulk d + 1
  | .map entries => uptoBulkEntries entries + 1
  | .held _ => 1
def uptoBulkAll {H : Type} : List (DataW H) → Nat
  | [] => 0
  | d :: r => uptoBulk d + uptoBulkAll r
def uptoBulkEntries {H : Type} : List (Lit × DataW H) → Nat
  | [] => 0
  | x :: r => uptoBulkEntry x + uptoBulkEntries r
def uptoBulkEntry {H : Type} : Lit × DataW H → Nat
  | (.string bytes, d) => bytes.length + uptoBulk d + 1
  | (_, d) => uptoBulk d + 1
 end
def uptoSmall : (H : Type) → List (DataW H) → Bool := fun _ ds => decide (uptoBulkAll ds ≤ 1048576)
def OpenSpec.upto (s : _root_.Go.ChangeSpec) : _root_.Go.OpenSpec := { _root_.Go.OpenSpec.ofChange s with cond := some uptoSmall }

/-- 'laws.FnExactScoresOk', WHERE WHAT IT READS IS OF BULK AT MOST 1048576: true; the input reads as it did. -/
def fnExactScoresOkUptoRow : OpenClaim := { program := "ytjhlpblegbaemaa", sum := "14ab6c7aff91e4c40a1473eaf3bbdf805969d627d6387f0185993f530f6c6799", func := "loop.example/quincunx/laws.FnExactScoresOk", spec := "fnExactScoresOk", unfollowed := true, recurses := true, apart := false, narrowed := true }
def FnExactScoresOkUptoSaid : Prop := fnExactScoresOkUptoRow.holds Try.pinned (OpenSpec.upto fnExactScoresOkSpec)

/-- 'laws.FnExactScoresPut', WHERE WHAT IT READS IS OF BULK AT MOST 1048576: true; the input reads as it did. -/
def fnExactScoresPutUptoRow : OpenClaim := { program := "ytjhlpblegbaemaa", sum := "14ab6c7aff91e4c40a1473eaf3bbdf805969d627d6387f0185993f530f6c6799", func := "loop.example/quincunx/laws.FnExactScoresPut", spec := "fnExactScoresPut", inPlace := ["slices.overlaps[loop.example/quincunx/impl.Score]"], unfollowed := true, recurses := true, apart := false, narrowed := true }
def FnExactScoresPutUptoSaid : Prop := fnExactScoresPutUptoRow.holds Try.pinned (OpenSpec.upto fnExactScoresPutSpec)

/-- 'laws.FnExactScoresDrop', WHERE WHAT IT READS IS OF BULK AT MOST 1048576: true; the input reads as it did. -/
def fnExactScoresDropUptoRow : OpenClaim := { program := "ytjhlpblegbaemaa", sum := "14ab6c7aff91e4c40a1473eaf3bbdf805969d627d6387f0185993f530f6c6799", func := "loop.example/quincunx/laws.FnExactScoresDrop", spec := "fnExactScoresDrop", unfollowed := true, recurses := true, apart := false, narrowed := true }
def FnExactScoresDropUptoSaid : Prop := fnExactScoresDropUptoRow.holds Try.pinned (OpenSpec.upto fnExactScoresDropSpec)

/-- 'laws.FnExactScoresRank', WHERE WHAT IT READS IS OF BULK AT MOST 1048576: true; the input reads as it did. -/
def fnExactScoresRankUptoRow : OpenClaim := { program := "ytjhlpblegbaemaa", sum := "14ab6c7aff91e4c40a1473eaf3bbdf805969d627d6387f0185993f530f6c6799", func := "loop.example/quincunx/laws.FnExactScoresRank", spec := "fnExactScoresRank", unfollowed := true, recurses := true, apart := false, narrowed := true }
def FnExactScoresRankUptoSaid : Prop := fnExactScoresRankUptoRow.holds Try.pinned (OpenSpec.upto fnExactScoresRankSpec)

/-- 'laws.FnExactScoresAt', WHERE WHAT IT READS IS OF BULK AT MOST 1048576: true; the input reads as it did. -/
def fnExactScoresAtUptoRow : OpenClaim := { program := "ytjhlpblegbaemaa", sum := "14ab6c7aff91e4c40a1473eaf3bbdf805969d627d6387f0185993f530f6c6799", func := "loop.example/quincunx/laws.FnExactScoresAt", spec := "fnExactScoresAt", unfollowed := true, recurses := true, apart := false, narrowed := true }
def FnExactScoresAtUptoSaid : Prop := fnExactScoresAtUptoRow.holds Try.pinned (OpenSpec.upto fnExactScoresAtSpec)

/-- 'laws.FnExactScoresBy', WHERE WHAT IT READS IS OF BULK AT MOST 1048576: true; the input reads as it did. -/
def fnExactScoresByUptoRow : OpenClaim := { program := "ytjhlpblegbaemaa", sum := "14ab6c7aff91e4c40a1473eaf3bbdf805969d627d6387f0185993f530f6c6799", func := "loop.example/quincunx/laws.FnExactScoresBy", spec := "fnExactScoresBy", unfollowed := true, recurses := true, apart := false, narrowed := true }
def FnExactScoresByUptoSaid : Prop := fnExactScoresByUptoRow.holds Try.pinned (OpenSpec.upto fnExactScoresBySpec)

/-- 'laws.FnExactFieldsOk', WHERE WHAT IT READS IS OF BULK AT MOST 1048576: true; the input reads as it did. -/
def fnExactFieldsOkUptoRow : OpenClaim := { program := "ytjhlpblegbaemaa", sum := "14ab6c7aff91e4c40a1473eaf3bbdf805969d627d6387f0185993f530f6c6799", func := "loop.example/quincunx/laws.FnExactFieldsOk", spec := "fnExactFieldsOk", unfollowed := true, recurses := true, apart := false, narrowed := true }
def FnExactFieldsOkUptoSaid : Prop := fnExactFieldsOkUptoRow.holds Try.pinned (OpenSpec.upto fnExactFieldsOkSpec)

/-- 'laws.FnExactFieldsPut', WHERE WHAT IT READS IS OF BULK AT MOST 1048576: true; the input reads as it did. -/
def fnExactFieldsPutUptoRow : OpenClaim := { program := "ytjhlpblegbaemaa", sum := "14ab6c7aff91e4c40a1473eaf3bbdf805969d627d6387f0185993f530f6c6799", func := "loop.example/quincunx/laws.FnExactFieldsPut", spec := "fnExactFieldsPut", inPlace := ["slices.overlaps[loop.example/quincunx/impl.Pair]"], unfollowed := true, recurses := true, apart := false, narrowed := true }
def FnExactFieldsPutUptoSaid : Prop := fnExactFieldsPutUptoRow.holds Try.pinned (OpenSpec.upto fnExactFieldsPutSpec)

/-- 'laws.FnExactFieldsDrop', WHERE WHAT IT READS IS OF BULK AT MOST 1048576: true; the input reads as it did. -/
def fnExactFieldsDropUptoRow : OpenClaim := { program := "ytjhlpblegbaemaa", sum := "14ab6c7aff91e4c40a1473eaf3bbdf805969d627d6387f0185993f530f6c6799", func := "loop.example/quincunx/laws.FnExactFieldsDrop", spec := "fnExactFieldsDrop", unfollowed := true, recurses := true, apart := false, narrowed := true }
def FnExactFieldsDropUptoSaid : Prop := fnExactFieldsDropUptoRow.holds Try.pinned (OpenSpec.upto fnExactFieldsDropSpec)

/-- 'laws.FnExactFieldsGet', WHERE WHAT IT READS IS OF BULK AT MOST 1048576: true; the input reads as it did. -/
def fnExactFieldsGetUptoRow : OpenClaim := { program := "ytjhlpblegbaemaa", sum := "14ab6c7aff91e4c40a1473eaf3bbdf805969d627d6387f0185993f530f6c6799", func := "loop.example/quincunx/laws.FnExactFieldsGet", spec := "fnExactFieldsGet", unfollowed := true, recurses := true, apart := false, narrowed := true }
def FnExactFieldsGetUptoSaid : Prop := fnExactFieldsGetUptoRow.holds Try.pinned (OpenSpec.upto fnExactFieldsGetSpec)

end Rows
end Go.Proofs.Ytjhlpblegbaemaa
