/-
  DERIVED. GIVEN WITH THE SEED: THE CARDS: each row of YtfoflnolmlgnfaaDoorRows.lean that lists a variable, with what it lists TIED to the program's text (the seventh form; the later family's looks); each row that meets fmt, with fmt's text TOLD by the authors' own Lean function (tested against real Go, not proved from fmt's source: count such statements apart). THE CARD IS WHAT COUNTS. Prove the row's statement (the work); the ties are given (YtfoflnolmlgnfaaDoorTie.lean); close each card by the builder's one call (the guide's Derived/Test/ToyasCard.lean, 'card_holds'). Laid BY PROGRAM, IN A SANDBOX (cutbox-door.mjs). By AI agents, Wed Nov 11 2026. No macro, syntax, notation, axiom, sorry.
-/
import Derived.Test.YtfoflnolmlgnfaaDoorRows
import GoSem.ClaimSeven
namespace Go.Proofs.YtfoflnolmlgnfaaDoor
namespace Rows

/-- THE TIED CARD OF 'laws.FnReplyPut'. -/
def fnReplyPutCard : Claim7 := { stood := { row := fnReplyPutRow, standIns := [], harness := (true, "4deadec35320d0be9cb8e1437104a829440fa7d5cbb92064db652e8677326c70"), looks := false }, kinds := [], alts := [], laidByText := true, laidKinds := [.data, .data, .data], laidTests := true, laidLooks := .later }
def FnReplyPutCardSaid : Prop := Claim7.holds Tryd.pinned (.plain (OpenSpec.ofChange fnReplyPutSpec)) fnReplyPutCard

/-- THE TIED CARD OF 'laws.FnOrderText'. -/
def fnOrderTextCard : Claim7 := { stood := { row := fnOrderTextRow, standIns := [], harness := (true, "4deadec35320d0be9cb8e1437104a829440fa7d5cbb92064db652e8677326c70"), looks := false }, kinds := [], alts := [], laidByText := true, laidKinds := [.data, .data, .data], laidTests := true, laidLooks := .later }
def FnOrderTextCardSaid : Prop := Claim7.holds Tryd.pinned (.plain (OpenSpec.ofChange fnOrderTextSpec)) fnOrderTextCard

/-- THE TIED CARD OF 'laws.FnExactReplyPut'. -/
def fnExactReplyPutCard : Claim7 := { stood := { row := fnExactReplyPutRow, standIns := [], harness := (true, "4deadec35320d0be9cb8e1437104a829440fa7d5cbb92064db652e8677326c70"), looks := false }, kinds := [], alts := [], laidByText := true, laidKinds := [.data, .data, .data], laidTests := true, laidLooks := .later }
def FnExactReplyPutCardSaid : Prop := Claim7.holds Tryd.pinned (.plain (OpenSpec.ofChange fnExactReplyPutSpec)) fnExactReplyPutCard

/-- THE SECOND FORM's CARD OF 'laws.FnReplyPut'. -/
def fnReplyPutUptoCard : Claim7 := { stood := { row := fnReplyPutUptoRow, standIns := [], harness := (true, "4deadec35320d0be9cb8e1437104a829440fa7d5cbb92064db652e8677326c70"), looks := false }, kinds := [], alts := [], laidByText := true, laidKinds := [.data, .data, .data], laidTests := true, laidLooks := .later }
def FnReplyPutUptoCardSaid : Prop := Claim7.holds Tryd.pinned (.plain (OpenSpec.upto fnReplyPutSpec)) fnReplyPutUptoCard

/-- THE SECOND FORM's CARD OF 'laws.FnOrderText'. -/
def fnOrderTextUptoCard : Claim7 := { stood := { row := fnOrderTextUptoRow, standIns := [], harness := (true, "4deadec35320d0be9cb8e1437104a829440fa7d5cbb92064db652e8677326c70"), looks := false }, kinds := [], alts := [], laidByText := true, laidKinds := [.data, .data, .data], laidTests := true, laidLooks := .later }
def FnOrderTextUptoCardSaid : Prop := Claim7.holds Tryd.pinned (.plain (OpenSpec.upto fnOrderTextSpec)) fnOrderTextUptoCard

/-- THE SECOND FORM's CARD OF 'laws.FnExactReplyPut'. -/
def fnExactReplyPutUptoCard : Claim7 := { stood := { row := fnExactReplyPutUptoRow, standIns := [], harness := (true, "4deadec35320d0be9cb8e1437104a829440fa7d5cbb92064db652e8677326c70"), looks := false }, kinds := [], alts := [], laidByText := true, laidKinds := [.data, .data, .data], laidTests := true, laidLooks := .later }
def FnExactReplyPutUptoCardSaid : Prop := Claim7.holds Tryd.pinned (.plain (OpenSpec.upto fnExactReplyPutSpec)) fnExactReplyPutUptoCard
end Rows
end Go.Proofs.YtfoflnolmlgnfaaDoor
