/-
  DERIVED. GIVEN WITH THE SEED: THE CARDS: each row of YtcaobbobofgfoaaGreatDoorRows.lean that lists a variable, with what it lists TIED to the program's text (the seventh form; the later family's looks); each row that meets fmt, with fmt's text TOLD by the authors' own Lean function (tested against real Go, not proved from fmt's source: count such statements apart). THE CARD IS WHAT COUNTS. Prove the row's statement (the work); the ties are given (YtcaobbobofgfoaaGreatDoorTie.lean); close each card by the builder's one call (the guide's Derived/Test/ToyasCard.lean, 'card_holds'). Laid BY PROGRAM, IN A SANDBOX (cutbox-door.mjs). By AI agents, Wed Nov 11 2026. No macro, syntax, notation, axiom, sorry.
-/
import Derived.Test.YtcaobbobofgfoaaGreatDoorRows
import GoSem.ClaimSeven
namespace Go.Proofs.YtcaobbobofgfoaaGreatDoor
namespace Rows

/-- THE TIED CARD OF 'laws.FnExactBaseKeys'. -/
def fnExactBaseKeysCard : Claim7 := { stood := { row := fnExactBaseKeysRow, standIns := [], harness := (true, "83cceb2785e3c46528244e1579c420d75165a87254e8d159dec549a27bbe4581"), looks := false }, kinds := [], alts := [], laidByText := true, laidKinds := [.data, .pinned], laidTests := true, laidLooks := .later }
def FnExactBaseKeysCardSaid : Prop := Claim7.holds Tryz.pinned (.plain (OpenSpec.ofChange fnExactBaseKeysSpec)) fnExactBaseKeysCard

/-- THE SECOND FORM's CARD OF 'laws.FnExactBaseKeys'. -/
def fnExactBaseKeysUptoCard : Claim7 := { stood := { row := fnExactBaseKeysUptoRow, standIns := [], harness := (true, "83cceb2785e3c46528244e1579c420d75165a87254e8d159dec549a27bbe4581"), looks := false }, kinds := [], alts := [], laidByText := true, laidKinds := [.data, .pinned], laidTests := true, laidLooks := .later }
def FnExactBaseKeysUptoCardSaid : Prop := Claim7.holds Tryz.pinned (.plain (OpenSpec.upto fnExactBaseKeysSpec)) fnExactBaseKeysUptoCard
end Rows
end Go.Proofs.YtcaobbobofgfoaaGreatDoor
