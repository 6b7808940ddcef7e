/-
  No cell of these rows narrows 'for every input' (looked for: loops, veiled, ifaces, maps, wideKeys, modest, calm, conditions, laid).
  DERIVED. THE GIVEN ROWS OF THIS SEAT. 9 by the template 'for every input the law returns true; each argument reads behind the call as it read before'; 0 by the template 'total and deterministic' (their statements: YtlgchkmgbjcboaaTotals.lean).
  GIVEN WITH THE SEED: the statements are not yours to turn. If you find one false, say at which input.
  Laid BY PROGRAM, IN A SANDBOX (cutbox-rows.mjs): the forced cells as the released guide's own fill.sh prints them over the translation 920bc2fb7ba3630a… (all of the seat's roots in one cut). By AI agents, Wed Nov 11 2026. No macro, syntax, notation, axiom, sorry.
-/
import Derived.Test.YtlgchkmgbjcboaaChecked
import GoSem.Claim
import GoSem.ClaimJoined
import GoSem.ClaimMapViews
import Derived.JoinedTies
import Derived.KernelRfl
namespace Go.Proofs.Ytlgchkmgbjcboaa
/- THE CELL 'sum', in the pinned program and in every row, IS THE sha256 OF THE DUMP (.gsa) THAT YtlgchkmgbjcboaaProg.lean LOADS. Nothing in Lean hashes anything: it is a label: what it is worth is what the hold of that sum in a sandbox is worth. -/
noncomputable def Try.pinned : Pinned := { name := "ytlgchkmgbjcboaa", sum := "920bc2fb7ba3630a0808291316e462d8388d19a9e3ae73574ff13af52b575c32", checked := Try.checked }
namespace Rows
def none {H : Type} : Left H := { results := [], args := [] }

/-- 'laws.FnSetAdd': WHATEVER THE INPUT: true; the input reads as it did. -/
def fnSetAddSpec : ChangeSpec := { name := "fnSetAdd", fn := fun _ => fun
  | [d] => { results := [.lit (.bool true)], args := [d] }
  | _ => none }
def fnSetAddRow : OpenClaim := { program := "ytlgchkmgbjcboaa", sum := "920bc2fb7ba3630a0808291316e462d8388d19a9e3ae73574ff13af52b575c32", func := "loop.example/quincunx/laws.FnSetAdd", spec := "fnSetAdd", unfollowed := true, recurses := true, apart := false }
def FnSetAddSaid : Prop := fnSetAddRow.holds Try.pinned (OpenSpec.ofChange fnSetAddSpec)

/-- ITS FALSE NEIGHBOUR: 'it returns false'. Refute it at one input. -/
def fnSetAddWrong : ChangeSpec := { name := "fnSetAdd", fn := fun _ => fun
  | [d] => { results := [.lit (.bool false)], args := [d] }
  | _ => none }
def FnSetAddWrongFalsely : Prop := fnSetAddRow.holds Try.pinned (OpenSpec.ofChange fnSetAddWrong)

/-- 'laws.FnSetDrop': WHATEVER THE INPUT: true; the input reads as it did. -/
def fnSetDropSpec : ChangeSpec := { name := "fnSetDrop", fn := fun _ => fun
  | [d] => { results := [.lit (.bool true)], args := [d] }
  | _ => none }
def fnSetDropRow : OpenClaim := { program := "ytlgchkmgbjcboaa", sum := "920bc2fb7ba3630a0808291316e462d8388d19a9e3ae73574ff13af52b575c32", func := "loop.example/quincunx/laws.FnSetDrop", spec := "fnSetDrop", unfollowed := true, recurses := true, apart := false }
def FnSetDropSaid : Prop := fnSetDropRow.holds Try.pinned (OpenSpec.ofChange fnSetDropSpec)

/-- ITS FALSE NEIGHBOUR: 'it returns false'. Refute it at one input. -/
def fnSetDropWrong : ChangeSpec := { name := "fnSetDrop", fn := fun _ => fun
  | [d] => { results := [.lit (.bool false)], args := [d] }
  | _ => none }
def FnSetDropWrongFalsely : Prop := fnSetDropRow.holds Try.pinned (OpenSpec.ofChange fnSetDropWrong)

/-- 'laws.FnSetBoth': WHATEVER THE INPUT: true; the input reads as it did. -/
def fnSetBothSpec : ChangeSpec := { name := "fnSetBoth", fn := fun _ => fun
  | [d] => { results := [.lit (.bool true)], args := [d] }
  | _ => none }
def fnSetBothRow : OpenClaim := { program := "ytlgchkmgbjcboaa", sum := "920bc2fb7ba3630a0808291316e462d8388d19a9e3ae73574ff13af52b575c32", func := "loop.example/quincunx/laws.FnSetBoth", spec := "fnSetBoth", unfollowed := true, recurses := true, apart := false }
def FnSetBothSaid : Prop := fnSetBothRow.holds Try.pinned (OpenSpec.ofChange fnSetBothSpec)

/-- ITS FALSE NEIGHBOUR: 'it returns false'. Refute it at one input. -/
def fnSetBothWrong : ChangeSpec := { name := "fnSetBoth", fn := fun _ => fun
  | [d] => { results := [.lit (.bool false)], args := [d] }
  | _ => none }
def FnSetBothWrongFalsely : Prop := fnSetBothRow.holds Try.pinned (OpenSpec.ofChange fnSetBothWrong)

/-- 'laws.FnExactSetAdd': WHATEVER THE INPUT: true; the input reads as it did. -/
def fnExactSetAddSpec : ChangeSpec := { name := "fnExactSetAdd", fn := fun _ => fun
  | [d1, d2] => { results := [.lit (.bool true)], args := [d1, d2] }
  | _ => none }
def fnExactSetAddRow : OpenClaim := { program := "ytlgchkmgbjcboaa", sum := "920bc2fb7ba3630a0808291316e462d8388d19a9e3ae73574ff13af52b575c32", func := "loop.example/quincunx/laws.FnExactSetAdd", spec := "fnExactSetAdd", unfollowed := true, recurses := true, apart := false }
def FnExactSetAddSaid : Prop := fnExactSetAddRow.holds Try.pinned (OpenSpec.ofChange fnExactSetAddSpec)

/-- ITS FALSE NEIGHBOUR: 'it returns false'. Refute it at one input. -/
def fnExactSetAddWrong : ChangeSpec := { name := "fnExactSetAdd", fn := fun _ => fun
  | [d1, d2] => { results := [.lit (.bool false)], args := [d1, d2] }
  | _ => none }
def FnExactSetAddWrongFalsely : Prop := fnExactSetAddRow.holds Try.pinned (OpenSpec.ofChange fnExactSetAddWrong)

/-- 'laws.FnExactSetDrop': WHATEVER THE INPUT: true; the input reads as it did. -/
def fnExactSetDropSpec : ChangeSpec := { name := "fnExactSetDrop", fn := fun _ => fun
  | [d1, d2] => { results := [.lit (.bool true)], args := [d1, d2] }
  | _ => none }
def fnExactSetDropRow : OpenClaim := { program := "ytlgchkmgbjcboaa", sum := "920bc2fb7ba3630a0808291316e462d8388d19a9e3ae73574ff13af52b575c32", func := "loop.example/quincunx/laws.FnExactSetDrop", spec := "fnExactSetDrop", unfollowed := true, recurses := true, apart := false }
def FnExactSetDropSaid : Prop := fnExactSetDropRow.holds Try.pinned (OpenSpec.ofChange fnExactSetDropSpec)

/-- ITS FALSE NEIGHBOUR: 'it returns false'. Refute it at one input. -/
def fnExactSetDropWrong : ChangeSpec := { name := "fnExactSetDrop", fn := fun _ => fun
  | [d1, d2] => { results := [.lit (.bool false)], args := [d1, d2] }
  | _ => none }
def FnExactSetDropWrongFalsely : Prop := fnExactSetDropRow.holds Try.pinned (OpenSpec.ofChange fnExactSetDropWrong)

/-- 'laws.FnExactSetBoth': WHATEVER THE INPUT: true; the input reads as it did. -/
def fnExactSetBothSpec : ChangeSpec := { name := "fnExactSetBoth", fn := fun _ => fun
  | [d1, d2] => { results := [.lit (.bool true)], args := [d1, d2] }
  | _ => none }
def fnExactSetBothRow : OpenClaim := { program := "ytlgchkmgbjcboaa", sum := "920bc2fb7ba3630a0808291316e462d8388d19a9e3ae73574ff13af52b575c32", func := "loop.example/quincunx/laws.FnExactSetBoth", spec := "fnExactSetBoth", unfollowed := true, recurses := true, apart := false }
def FnExactSetBothSaid : Prop := fnExactSetBothRow.holds Try.pinned (OpenSpec.ofChange fnExactSetBothSpec)

/-- ITS FALSE NEIGHBOUR: 'it returns false'. Refute it at one input. -/
def fnExactSetBothWrong : ChangeSpec := { name := "fnExactSetBoth", fn := fun _ => fun
  | [d1, d2] => { results := [.lit (.bool false)], args := [d1, d2] }
  | _ => none }
def FnExactSetBothWrongFalsely : Prop := fnExactSetBothRow.holds Try.pinned (OpenSpec.ofChange fnExactSetBothWrong)

/-- 'laws.FnExactSetAny': WHATEVER THE INPUT: true; the input reads as it did. -/
def fnExactSetAnySpec : ChangeSpec := { name := "fnExactSetAny", fn := fun _ => fun
  | [d1, d2] => { results := [.lit (.bool true)], args := [d1, d2] }
  | _ => none }
def fnExactSetAnyRow : OpenClaim := { program := "ytlgchkmgbjcboaa", sum := "920bc2fb7ba3630a0808291316e462d8388d19a9e3ae73574ff13af52b575c32", func := "loop.example/quincunx/laws.FnExactSetAny", spec := "fnExactSetAny", unfollowed := true, recurses := true, apart := false }
def FnExactSetAnySaid : Prop := fnExactSetAnyRow.holds Try.pinned (OpenSpec.ofChange fnExactSetAnySpec)

/-- ITS FALSE NEIGHBOUR: 'it returns false'. Refute it at one input. -/
def fnExactSetAnyWrong : ChangeSpec := { name := "fnExactSetAny", fn := fun _ => fun
  | [d1, d2] => { results := [.lit (.bool false)], args := [d1, d2] }
  | _ => none }
def FnExactSetAnyWrongFalsely : Prop := fnExactSetAnyRow.holds Try.pinned (OpenSpec.ofChange fnExactSetAnyWrong)

/-- 'laws.FnExactSetLess': WHATEVER THE INPUT: true; the input reads as it did. -/
def fnExactSetLessSpec : ChangeSpec := { name := "fnExactSetLess", fn := fun _ => fun
  | [d1, d2] => { results := [.lit (.bool true)], args := [d1, d2] }
  | _ => none }
def fnExactSetLessRow : OpenClaim := { program := "ytlgchkmgbjcboaa", sum := "920bc2fb7ba3630a0808291316e462d8388d19a9e3ae73574ff13af52b575c32", func := "loop.example/quincunx/laws.FnExactSetLess", spec := "fnExactSetLess", unfollowed := true, recurses := true, apart := false }
def FnExactSetLessSaid : Prop := fnExactSetLessRow.holds Try.pinned (OpenSpec.ofChange fnExactSetLessSpec)

/-- ITS FALSE NEIGHBOUR: 'it returns false'. Refute it at one input. -/
def fnExactSetLessWrong : ChangeSpec := { name := "fnExactSetLess", fn := fun _ => fun
  | [d1, d2] => { results := [.lit (.bool false)], args := [d1, d2] }
  | _ => none }
def FnExactSetLessWrongFalsely : Prop := fnExactSetLessRow.holds Try.pinned (OpenSpec.ofChange fnExactSetLessWrong)

/-- 'laws.FnExactSetOk': WHATEVER THE INPUT: true; the input reads as it did. -/
def fnExactSetOkSpec : ChangeSpec := { name := "fnExactSetOk", fn := fun _ => fun
  | [d] => { results := [.lit (.bool true)], args := [d] }
  | _ => none }
def fnExactSetOkRow : OpenClaim := { program := "ytlgchkmgbjcboaa", sum := "920bc2fb7ba3630a0808291316e462d8388d19a9e3ae73574ff13af52b575c32", func := "loop.example/quincunx/laws.FnExactSetOk", spec := "fnExactSetOk", apart := false }
def FnExactSetOkSaid : Prop := fnExactSetOkRow.holds Try.pinned (OpenSpec.ofChange fnExactSetOkSpec)

/-- ITS FALSE NEIGHBOUR: 'it returns false'. Refute it at one input. -/
def fnExactSetOkWrong : ChangeSpec := { name := "fnExactSetOk", fn := fun _ => fun
  | [d] => { results := [.lit (.bool false)], args := [d] }
  | _ => none }
def FnExactSetOkWrongFalsely : Prop := fnExactSetOkRow.holds Try.pinned (OpenSpec.ofChange fnExactSetOkWrong)

/- THE SECOND FORM. 'bulk': how many values and letters a reading holds, each counted each time it is reached (what is shared counts as often as it is met; a slice's spare places count too). A statement '..UptoSaid' is the law's where the arguments, and the package variables that the reading takes, are together of bulk at most 1048576: NARROWER than '..Said'. Prove '..Said' where nothing that the law and all that it calls make is longer than what came in: it says more and counts as full. Else prove '..UptoSaid'. A law counts once. -/
mutual
def uptoBulk {H : Type} : DataW H → Nat
  | .lit (.string bytes) => bytes.length + 1
  | .lit _ => 1
  | .nil => 1
  | .ptr d => uptoBulk d + 1
  | .slice elems spare => uptoBulkAll elems + uptoBulkAll spare + 1
  | .agg parts => uptoBulkAll parts + 1
  | .iface _ d => uptoBulk d + 1
  | .map entries => uptoBulkEntries entries + 1
  | .held _ => 1
def uptoBulkAll {H : Type} : List (DataW H) → Nat
  | [] => 0
  | d :: r => uptoBulk d + uptoBulkAll r
def uptoBulkEntries {H : Type} : List (Lit × DataW H) → Nat
  | [] => 0
  | x :: r => uptoBulkEntry x + uptoBulkEntries r
def uptoBulkEntry {H : Type} : Lit × DataW H → Nat
  | (.string bytes, d) => bytes.length + uptoBulk d + 1
  | (_, d) => uptoBulk d + 1
 end
def uptoSmall : (H : Type) → List (DataW H) → Bool := fun _ ds => decide (uptoBulkAll ds ≤ 1048576)
def OpenSpec.upto (s : _root_.Go.ChangeSpec) : _root_.Go.OpenSpec := { _root_.Go.OpenSpec.ofChange s with cond := some uptoSmall }

/-- 'laws.FnSetAdd', WHERE WHAT IT READS IS OF BULK AT MOST 1048576: true; the input reads as it did. -/
def fnSetAddUptoRow : OpenClaim := { program := "ytlgchkmgbjcboaa", sum := "920bc2fb7ba3630a0808291316e462d8388d19a9e3ae73574ff13af52b575c32", func := "loop.example/quincunx/laws.FnSetAdd", spec := "fnSetAdd", unfollowed := true, recurses := true, apart := false, narrowed := true }
def FnSetAddUptoSaid : Prop := fnSetAddUptoRow.holds Try.pinned (OpenSpec.upto fnSetAddSpec)

/-- 'laws.FnSetDrop', WHERE WHAT IT READS IS OF BULK AT MOST 1048576: true; the input reads as it did. -/
def fnSetDropUptoRow : OpenClaim := { program := "ytlgchkmgbjcboaa", sum := "920bc2fb7ba3630a0808291316e462d8388d19a9e3ae73574ff13af52b575c32", func := "loop.example/quincunx/laws.FnSetDrop", spec := "fnSetDrop", unfollowed := true, recurses := true, apart := false, narrowed := true }
def FnSetDropUptoSaid : Prop := fnSetDropUptoRow.holds Try.pinned (OpenSpec.upto fnSetDropSpec)

/-- 'laws.FnSetBoth', WHERE WHAT IT READS IS OF BULK AT MOST 1048576: true; the input reads as it did. -/
def fnSetBothUptoRow : OpenClaim := { program := "ytlgchkmgbjcboaa", sum := "920bc2fb7ba3630a0808291316e462d8388d19a9e3ae73574ff13af52b575c32", func := "loop.example/quincunx/laws.FnSetBoth", spec := "fnSetBoth", unfollowed := true, recurses := true, apart := false, narrowed := true }
def FnSetBothUptoSaid : Prop := fnSetBothUptoRow.holds Try.pinned (OpenSpec.upto fnSetBothSpec)

/-- 'laws.FnExactSetAdd', WHERE WHAT IT READS IS OF BULK AT MOST 1048576: true; the input reads as it did. -/
def fnExactSetAddUptoRow : OpenClaim := { program := "ytlgchkmgbjcboaa", sum := "920bc2fb7ba3630a0808291316e462d8388d19a9e3ae73574ff13af52b575c32", func := "loop.example/quincunx/laws.FnExactSetAdd", spec := "fnExactSetAdd", unfollowed := true, recurses := true, apart := false, narrowed := true }
def FnExactSetAddUptoSaid : Prop := fnExactSetAddUptoRow.holds Try.pinned (OpenSpec.upto fnExactSetAddSpec)

/-- 'laws.FnExactSetDrop', WHERE WHAT IT READS IS OF BULK AT MOST 1048576: true; the input reads as it did. -/
def fnExactSetDropUptoRow : OpenClaim := { program := "ytlgchkmgbjcboaa", sum := "920bc2fb7ba3630a0808291316e462d8388d19a9e3ae73574ff13af52b575c32", func := "loop.example/quincunx/laws.FnExactSetDrop", spec := "fnExactSetDrop", unfollowed := true, recurses := true, apart := false, narrowed := true }
def FnExactSetDropUptoSaid : Prop := fnExactSetDropUptoRow.holds Try.pinned (OpenSpec.upto fnExactSetDropSpec)

/-- 'laws.FnExactSetBoth', WHERE WHAT IT READS IS OF BULK AT MOST 1048576: true; the input reads as it did. -/
def fnExactSetBothUptoRow : OpenClaim := { program := "ytlgchkmgbjcboaa", sum := "920bc2fb7ba3630a0808291316e462d8388d19a9e3ae73574ff13af52b575c32", func := "loop.example/quincunx/laws.FnExactSetBoth", spec := "fnExactSetBoth", unfollowed := true, recurses := true, apart := false, narrowed := true }
def FnExactSetBothUptoSaid : Prop := fnExactSetBothUptoRow.holds Try.pinned (OpenSpec.upto fnExactSetBothSpec)

/-- 'laws.FnExactSetAny', WHERE WHAT IT READS IS OF BULK AT MOST 1048576: true; the input reads as it did. -/
def fnExactSetAnyUptoRow : OpenClaim := { program := "ytlgchkmgbjcboaa", sum := "920bc2fb7ba3630a0808291316e462d8388d19a9e3ae73574ff13af52b575c32", func := "loop.example/quincunx/laws.FnExactSetAny", spec := "fnExactSetAny", unfollowed := true, recurses := true, apart := false, narrowed := true }
def FnExactSetAnyUptoSaid : Prop := fnExactSetAnyUptoRow.holds Try.pinned (OpenSpec.upto fnExactSetAnySpec)

/-- 'laws.FnExactSetLess', WHERE WHAT IT READS IS OF BULK AT MOST 1048576: true; the input reads as it did. -/
def fnExactSetLessUptoRow : OpenClaim := { program := "ytlgchkmgbjcboaa", sum := "920bc2fb7ba3630a0808291316e462d8388d19a9e3ae73574ff13af52b575c32", func := "loop.example/quincunx/laws.FnExactSetLess", spec := "fnExactSetLess", unfollowed := true, recurses := true, apart := false, narrowed := true }
def FnExactSetLessUptoSaid : Prop := fnExactSetLessUptoRow.holds Try.pinned (OpenSpec.upto fnExactSetLessSpec)

/-- 'laws.FnExactSetOk', WHERE WHAT IT READS IS OF BULK AT MOST 1048576: true; the input reads as it did. -/
def fnExactSetOkUptoRow : OpenClaim := { program := "ytlgchkmgbjcboaa", sum := "920bc2fb7ba3630a0808291316e462d8388d19a9e3ae73574ff13af52b575c32", func := "loop.example/quincunx/laws.FnExactSetOk", spec := "fnExactSetOk", apart := false, narrowed := true }
def FnExactSetOkUptoSaid : Prop := fnExactSetOkUptoRow.holds Try.pinned (OpenSpec.upto fnExactSetOkSpec)

end Rows
end Go.Proofs.Ytlgchkmgbjcboaa
