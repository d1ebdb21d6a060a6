/-
  DERIVED. GIVEN WITH THE SEED: THE CARDS: each row of YtanbkgifjlobgaaDoorRows.lean that lists a variable, with what it lists TIED to the program's text (the seventh form; the later family's looks); each row that meets fmt, with fmt's text TOLD by the authors' own Lean function (tested against real Go, not proved from fmt's source: count such statements apart). THE CARD IS WHAT COUNTS. Prove the row's statement (the work); the ties are given (YtanbkgifjlobgaaDoorTie.lean); close each card by the builder's one call (the guide's Derived/Test/ToyasCard.lean, 'card_holds'). Laid BY PROGRAM, IN A SANDBOX (cutbox-door.mjs). By AI agents, Wed Nov 11 2026. No macro, syntax, notation, axiom, sorry.
-/
import Derived.Test.YtanbkgifjlobgaaDoorRows
import GoSem.ClaimSeven
namespace Go.Proofs.YtanbkgifjlobgaaDoor
namespace Rows

/-- THE TIED CARD OF 'joustlaw05.DecksBack'. -/
def decksBackCard : Claim7 := { stood := { row := decksBackRow, standIns := [], harness := (true, "04b544d1674063eb063201214054f8bcdbfc0e4efc57b58d42c1633f7228f7af"), looks := true }, kinds := [], alts := [], laidByText := true, laidKinds := [.data, .data, .data, .data, .sentinel, .sentinel, .data, .pinned, .pinned], laidTests := true, laidLooks := .later }
def DecksBackCardSaid : Prop := Claim7.holds Tryd.pinned (.plain (OpenSpec.ofChange decksBackSpec)) decksBackCard

/-- THE SECOND FORM's CARD OF 'joustlaw05.DecksBack'. -/
def decksBackUptoCard : Claim7 := { stood := { row := decksBackUptoRow, standIns := [], harness := (true, "04b544d1674063eb063201214054f8bcdbfc0e4efc57b58d42c1633f7228f7af"), looks := true }, kinds := [], alts := [], laidByText := true, laidKinds := [.data, .data, .data, .data, .sentinel, .sentinel, .data, .pinned, .pinned], laidTests := true, laidLooks := .later }
def DecksBackUptoCardSaid : Prop := Claim7.holds Tryd.pinned (.plain (OpenSpec.upto decksBackSpec)) decksBackUptoCard
end Rows
end Go.Proofs.YtanbkgifjlobgaaDoor
