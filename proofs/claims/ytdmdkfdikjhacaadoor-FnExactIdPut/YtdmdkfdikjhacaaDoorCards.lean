/-
  DERIVED. GIVEN WITH THE SEED: THE CARDS: each row of YtdmdkfdikjhacaaDoorRows.lean that lists a variable, with what it lists TIED to the program's text (the seventh form; the later family's looks); each row that meets fmt, with fmt's text TOLD by the authors' own Lean function (tested against real Go, not proved from fmt's source: count such statements apart). THE CARD IS WHAT COUNTS. Prove the row's statement (the work); the ties are given (YtdmdkfdikjhacaaDoorTie.lean); close each card by the builder's one call (the guide's Derived/Test/ToyasCard.lean, 'card_holds'). Laid BY PROGRAM, IN A SANDBOX (cutbox-door.mjs). By AI agents, Wed Nov 11 2026. No macro, syntax, notation, axiom, sorry.
-/
import Derived.Test.YtdmdkfdikjhacaaDoorRows
import GoSem.ClaimSeven
namespace Go.Proofs.YtdmdkfdikjhacaaDoor
namespace Rows

/-- THE TIED CARD OF 'laws.FnExactIdPut'. -/
def fnExactIdPutCard : Claim7 := { stood := { row := fnExactIdPutRow, standIns := [], harness := (true, "5c42c294c818d31fdc6180b8623f85260bd48a58f74ccab931781e25648faaeb"), looks := false }, kinds := [], alts := [], laidByText := true, laidKinds := [.data, .data, .data], laidTests := true, laidLooks := .later }
def FnExactIdPutCardSaid : Prop := Claim7.holds Tryd.pinned (.plain (OpenSpec.ofChange fnExactIdPutSpec)) fnExactIdPutCard

/-- THE SECOND FORM's CARD OF 'laws.FnExactIdPut'. -/
def fnExactIdPutUptoCard : Claim7 := { stood := { row := fnExactIdPutUptoRow, standIns := [], harness := (true, "5c42c294c818d31fdc6180b8623f85260bd48a58f74ccab931781e25648faaeb"), looks := false }, kinds := [], alts := [], laidByText := true, laidKinds := [.data, .data, .data], laidTests := true, laidLooks := .later }
def FnExactIdPutUptoCardSaid : Prop := Claim7.holds Tryd.pinned (.plain (OpenSpec.upto fnExactIdPutSpec)) fnExactIdPutUptoCard
end Rows
end Go.Proofs.YtdmdkfdikjhacaaDoor
