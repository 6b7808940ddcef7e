/-
  DERIVED. GIVEN WITH THE SEED: THE CARDS: each row of YtfnefecoecaokaaDoorRows.lean that lists a variable, with what it lists TIED to the program's text (the seventh form; the later family's looks); each row that meets fmt, with fmt's text TOLD by the authors' own Lean function (tested against real Go, not proved from fmt's source: count such statements apart). THE CARD IS WHAT COUNTS. Prove the row's statement (the work); the ties are given (YtfnefecoecaokaaDoorTie.lean); close each card by the builder's one call (the guide's Derived/Test/ToyasCard.lean, 'card_holds'). Laid BY PROGRAM, IN A SANDBOX (cutbox-door.mjs). By AI agents, Wed Nov 11 2026. No macro, syntax, notation, axiom, sorry.
-/
import Derived.Test.YtfnefecoecaokaaDoorRows
import GoSem.ClaimSeven
namespace Go.Proofs.YtfnefecoecaokaaDoor
namespace Rows

/-- THE TIED CARD OF 'laws.FnReplyPut'. -/
def fnReplyPutCard : Claim7 := { stood := { row := fnReplyPutRow, standIns := [], harness := (true, "25fb905df344afa1369ec4d97b087623756c4274c42540f241470ad5e4c19ff5"), looks := false }, kinds := [], alts := [], laidByText := true, laidKinds := [.data, .data, .data], laidTests := true, laidLooks := .later }
def FnReplyPutCardSaid : Prop := Claim7.holds Tryd.pinned (.plain (OpenSpec.ofChange fnReplyPutSpec)) fnReplyPutCard

/-- THE TIED CARD OF 'laws.FnOrderText'. -/
def fnOrderTextCard : Claim7 := { stood := { row := fnOrderTextRow, standIns := [], harness := (true, "25fb905df344afa1369ec4d97b087623756c4274c42540f241470ad5e4c19ff5"), looks := false }, kinds := [], alts := [], laidByText := true, laidKinds := [.data, .data, .data], laidTests := true, laidLooks := .later }
def FnOrderTextCardSaid : Prop := Claim7.holds Tryd.pinned (.plain (OpenSpec.ofChange fnOrderTextSpec)) fnOrderTextCard

/-- THE TIED CARD OF 'laws.FnIntGet'. -/
def fnIntGetCard : Claim7 := { stood := { row := fnIntGetRow, standIns := [], harness := (true, "25fb905df344afa1369ec4d97b087623756c4274c42540f241470ad5e4c19ff5"), looks := false }, kinds := [], alts := [], laidByText := true, laidKinds := [.data, .data, .data], laidTests := true, laidLooks := .later }
def FnIntGetCardSaid : Prop := Claim7.holds Tryd.pinned (.plain (OpenSpec.ofChange fnIntGetSpec)) fnIntGetCard

/-- THE TIED CARD OF 'laws.FnMatch'. -/
def fnMatchCard : Claim7 := { stood := { row := fnMatchRow, standIns := [], harness := (true, "25fb905df344afa1369ec4d97b087623756c4274c42540f241470ad5e4c19ff5"), looks := false }, kinds := [], alts := [], laidByText := true, laidKinds := [.data, .pinned], laidTests := true, laidLooks := .later }
def FnMatchCardSaid : Prop := Claim7.holds Tryd.pinned (.plain (OpenSpec.ofChange fnMatchSpec)) fnMatchCard

/-- THE TIED CARD OF 'laws.FnExactReplyPut'. -/
def fnExactReplyPutCard : Claim7 := { stood := { row := fnExactReplyPutRow, standIns := [], harness := (true, "25fb905df344afa1369ec4d97b087623756c4274c42540f241470ad5e4c19ff5"), looks := false }, kinds := [], alts := [], laidByText := true, laidKinds := [.data, .data, .data], laidTests := true, laidLooks := .later }
def FnExactReplyPutCardSaid : Prop := Claim7.holds Tryd.pinned (.plain (OpenSpec.ofChange fnExactReplyPutSpec)) fnExactReplyPutCard

/-- THE TIED CARD OF 'laws.FnExactOrderPut'. -/
def fnExactOrderPutCard : Claim7 := { stood := { row := fnExactOrderPutRow, standIns := [], harness := (true, "25fb905df344afa1369ec4d97b087623756c4274c42540f241470ad5e4c19ff5"), looks := false }, kinds := [], alts := [], laidByText := true, laidKinds := [.data, .data, .data], laidTests := true, laidLooks := .later }
def FnExactOrderPutCardSaid : Prop := Claim7.holds Tryd.pinned (.plain (OpenSpec.ofChange fnExactOrderPutSpec)) fnExactOrderPutCard

/-- THE TIED CARD OF 'laws.FnExactMatch'. -/
def fnExactMatchCard : Claim7 := { stood := { row := fnExactMatchRow, standIns := [], harness := (true, "25fb905df344afa1369ec4d97b087623756c4274c42540f241470ad5e4c19ff5"), looks := false }, kinds := [], alts := [], laidByText := true, laidKinds := [.data, .pinned], laidTests := true, laidLooks := .later }
def FnExactMatchCardSaid : Prop := Claim7.holds Tryd.pinned (.plain (OpenSpec.ofChange fnExactMatchSpec)) fnExactMatchCard

/-- THE SECOND FORM's CARD OF 'laws.FnReplyPut'. -/
def fnReplyPutUptoCard : Claim7 := { stood := { row := fnReplyPutUptoRow, standIns := [], harness := (true, "25fb905df344afa1369ec4d97b087623756c4274c42540f241470ad5e4c19ff5"), looks := false }, kinds := [], alts := [], laidByText := true, laidKinds := [.data, .data, .data], laidTests := true, laidLooks := .later }
def FnReplyPutUptoCardSaid : Prop := Claim7.holds Tryd.pinned (.plain (OpenSpec.upto fnReplyPutSpec)) fnReplyPutUptoCard

/-- THE SECOND FORM's CARD OF 'laws.FnOrderText'. -/
def fnOrderTextUptoCard : Claim7 := { stood := { row := fnOrderTextUptoRow, standIns := [], harness := (true, "25fb905df344afa1369ec4d97b087623756c4274c42540f241470ad5e4c19ff5"), looks := false }, kinds := [], alts := [], laidByText := true, laidKinds := [.data, .data, .data], laidTests := true, laidLooks := .later }
def FnOrderTextUptoCardSaid : Prop := Claim7.holds Tryd.pinned (.plain (OpenSpec.upto fnOrderTextSpec)) fnOrderTextUptoCard

/-- THE SECOND FORM's CARD OF 'laws.FnIntGet'. -/
def fnIntGetUptoCard : Claim7 := { stood := { row := fnIntGetUptoRow, standIns := [], harness := (true, "25fb905df344afa1369ec4d97b087623756c4274c42540f241470ad5e4c19ff5"), looks := false }, kinds := [], alts := [], laidByText := true, laidKinds := [.data, .data, .data], laidTests := true, laidLooks := .later }
def FnIntGetUptoCardSaid : Prop := Claim7.holds Tryd.pinned (.plain (OpenSpec.upto fnIntGetSpec)) fnIntGetUptoCard

/-- THE SECOND FORM's CARD OF 'laws.FnMatch'. -/
def fnMatchUptoCard : Claim7 := { stood := { row := fnMatchUptoRow, standIns := [], harness := (true, "25fb905df344afa1369ec4d97b087623756c4274c42540f241470ad5e4c19ff5"), looks := false }, kinds := [], alts := [], laidByText := true, laidKinds := [.data, .pinned], laidTests := true, laidLooks := .later }
def FnMatchUptoCardSaid : Prop := Claim7.holds Tryd.pinned (.plain (OpenSpec.upto fnMatchSpec)) fnMatchUptoCard

/-- THE SECOND FORM's CARD OF 'laws.FnExactReplyPut'. -/
def fnExactReplyPutUptoCard : Claim7 := { stood := { row := fnExactReplyPutUptoRow, standIns := [], harness := (true, "25fb905df344afa1369ec4d97b087623756c4274c42540f241470ad5e4c19ff5"), looks := false }, kinds := [], alts := [], laidByText := true, laidKinds := [.data, .data, .data], laidTests := true, laidLooks := .later }
def FnExactReplyPutUptoCardSaid : Prop := Claim7.holds Tryd.pinned (.plain (OpenSpec.upto fnExactReplyPutSpec)) fnExactReplyPutUptoCard

/-- THE SECOND FORM's CARD OF 'laws.FnExactOrderPut'. -/
def fnExactOrderPutUptoCard : Claim7 := { stood := { row := fnExactOrderPutUptoRow, standIns := [], harness := (true, "25fb905df344afa1369ec4d97b087623756c4274c42540f241470ad5e4c19ff5"), looks := false }, kinds := [], alts := [], laidByText := true, laidKinds := [.data, .data, .data], laidTests := true, laidLooks := .later }
def FnExactOrderPutUptoCardSaid : Prop := Claim7.holds Tryd.pinned (.plain (OpenSpec.upto fnExactOrderPutSpec)) fnExactOrderPutUptoCard

/-- THE SECOND FORM's CARD OF 'laws.FnExactMatch'. -/
def fnExactMatchUptoCard : Claim7 := { stood := { row := fnExactMatchUptoRow, standIns := [], harness := (true, "25fb905df344afa1369ec4d97b087623756c4274c42540f241470ad5e4c19ff5"), looks := false }, kinds := [], alts := [], laidByText := true, laidKinds := [.data, .pinned], laidTests := true, laidLooks := .later }
def FnExactMatchUptoCardSaid : Prop := Claim7.holds Tryd.pinned (.plain (OpenSpec.upto fnExactMatchSpec)) fnExactMatchUptoCard
end Rows
end Go.Proofs.YtfnefecoecaokaaDoor
