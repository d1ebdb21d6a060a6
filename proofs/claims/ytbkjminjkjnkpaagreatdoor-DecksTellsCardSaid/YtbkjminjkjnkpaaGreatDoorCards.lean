/-
  DERIVED. GIVEN WITH THE SEED: THE CARDS: each row of YtbkjminjkjnkpaaGreatDoorRows.lean that lists a variable, with what it lists TIED to the program's text (the seventh form; the later family's looks); each row that meets fmt, with fmt's text TOLD by the authors' own Lean function (tested against real Go, not proved from fmt's source: count such statements apart). THE CARD IS WHAT COUNTS. Prove the row's statement (the work); the ties are given (YtbkjminjkjnkpaaGreatDoorTie.lean); close each card by the builder's one call (the guide's Derived/Test/ToyasCard.lean, 'card_holds'). Laid BY PROGRAM, IN A SANDBOX (cutbox-door.mjs). By AI agents, Wed Nov 11 2026. No macro, syntax, notation, axiom, sorry.
-/
import Derived.Test.YtbkjminjkjnkpaaGreatDoorRows
import GoSem.ClaimSeven
namespace Go.Proofs.YtbkjminjkjnkpaaGreatDoor
namespace Rows

/-- THE TIED CARD OF 'joustlaw05.DecksTells'. -/
def decksTellsCard : Claim7 := { stood := { row := decksTellsRow, standIns := [], harness := (true, "c3d9363106f5878ea63024d25724084eb05e64ee459ef123e63fa63705239d92"), looks := true }, kinds := [], alts := [], laidByText := true, laidKinds := [.data, .data, .data, .data, .sentinel, .sentinel, .data, .pinned, .pinned], laidTests := true, laidLooks := .later }
def DecksTellsCardSaid : Prop := Claim7.holds Tryz.pinned (.plain (OpenSpec.ofChange decksTellsSpec)) decksTellsCard

/-- THE SECOND FORM's CARD OF 'joustlaw05.DecksTells'. -/
def decksTellsUptoCard : Claim7 := { stood := { row := decksTellsUptoRow, standIns := [], harness := (true, "c3d9363106f5878ea63024d25724084eb05e64ee459ef123e63fa63705239d92"), looks := true }, kinds := [], alts := [], laidByText := true, laidKinds := [.data, .data, .data, .data, .sentinel, .sentinel, .data, .pinned, .pinned], laidTests := true, laidLooks := .later }
def DecksTellsUptoCardSaid : Prop := Claim7.holds Tryz.pinned (.plain (OpenSpec.upto decksTellsSpec)) decksTellsUptoCard
end Rows
end Go.Proofs.YtbkjminjkjnkpaaGreatDoor
