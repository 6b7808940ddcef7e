/-
  DERIVED. GIVEN WITH THE SEED: THE CARDS: each row of YtkpfoocfjhilmaaDoorRows.lean that lists a variable, with what it lists TIED to the program's text (the seventh form; the later family's looks); each row that meets fmt, with fmt's text TOLD by the authors' own Lean function (tested against real Go, not proved from fmt's source: count such statements apart). THE CARD IS WHAT COUNTS. Prove the row's statement (the work); the ties are given (YtkpfoocfjhilmaaDoorTie.lean); close each card by the builder's one call (the guide's Derived/Test/ToyasCard.lean, 'card_holds'). Laid BY PROGRAM, IN A SANDBOX (cutbox-door.mjs). By AI agents, Wed Nov 11 2026. No macro, syntax, notation, axiom, sorry.
-/
import Derived.Test.YtkpfoocfjhilmaaDoorRows
import GoSem.ClaimSeven
namespace Go.Proofs.YtkpfoocfjhilmaaDoor
namespace Rows

/-- THE TIED CARD OF 'laws.FnIdText'. -/
def fnIdTextCard : Claim7 := { stood := { row := fnIdTextRow, standIns := [], harness := (true, "612b01ed1d22673b15a388ad0b11293f38b7a191385aa64909a8f50f1a4ab08a"), looks := false }, kinds := [], alts := [], laidByText := true, laidKinds := [.data, .data, .data], laidTests := true, laidLooks := .later }
def FnIdTextCardSaid : Prop := Claim7.holds Tryd.pinned (.plain (OpenSpec.ofChange fnIdTextSpec)) fnIdTextCard

/-- THE SECOND FORM's CARD OF 'laws.FnIdText'. -/
def fnIdTextUptoCard : Claim7 := { stood := { row := fnIdTextUptoRow, standIns := [], harness := (true, "612b01ed1d22673b15a388ad0b11293f38b7a191385aa64909a8f50f1a4ab08a"), looks := false }, kinds := [], alts := [], laidByText := true, laidKinds := [.data, .data, .data], laidTests := true, laidLooks := .later }
def FnIdTextUptoCardSaid : Prop := Claim7.holds Tryd.pinned (.plain (OpenSpec.upto fnIdTextSpec)) fnIdTextUptoCard
end Rows
end Go.Proofs.YtkpfoocfjhilmaaDoor
