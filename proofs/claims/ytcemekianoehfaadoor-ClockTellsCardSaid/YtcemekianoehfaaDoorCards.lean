/-
  DERIVED. GIVEN WITH THE SEED: THE CARDS: each row of YtcemekianoehfaaDoorRows.lean that lists a variable, with what it lists TIED to the program's text (the seventh form; the later family's looks); each row that meets fmt, with fmt's text TOLD by the authors' own Lean function (tested against real Go, not proved from fmt's source: count such statements apart). THE CARD IS WHAT COUNTS. Prove the row's statement (the work); the ties are given (YtcemekianoehfaaDoorTie.lean); close each card by the builder's one call (the guide's Derived/Test/ToyasCard.lean, 'card_holds'). Laid BY PROGRAM, IN A SANDBOX (cutbox-door.mjs). By AI agents, Wed Nov 11 2026. No macro, syntax, notation, axiom, sorry.
-/
import Derived.Test.YtcemekianoehfaaDoorRows
import GoSem.ClaimSeven
namespace Go.Proofs.YtcemekianoehfaaDoor
namespace Rows

/-- THE TIED CARD OF 'joustlaw28.ClockTells'. -/
def clockTellsCard : Claim7 := { stood := { row := clockTellsRow, standIns := [], harness := (true, "156e6137bc81b1c5c52382dea679e0c0fe45858b5542f317f152e8383899672e"), looks := false }, kinds := [], alts := [], laidByText := true, laidKinds := [.data, .data, .data], laidTests := true, laidLooks := .later }
def ClockTellsCardSaid : Prop := Claim7.holds Tryd.pinned (.plain (OpenSpec.ofChange clockTellsSpec)) clockTellsCard

/-- THE TIED CARD OF 'joustlaw28.ClockStays'. -/
def clockStaysCard : Claim7 := { stood := { row := clockStaysRow, standIns := [], harness := (true, "156e6137bc81b1c5c52382dea679e0c0fe45858b5542f317f152e8383899672e"), looks := false }, kinds := [], alts := [], laidByText := true, laidKinds := [.data, .data, .data], laidTests := true, laidLooks := .later }
def ClockStaysCardSaid : Prop := Claim7.holds Tryd.pinned (.plain (OpenSpec.ofChange clockStaysSpec)) clockStaysCard

/-- THE SECOND FORM's CARD OF 'joustlaw28.ClockTells'. -/
def clockTellsUptoCard : Claim7 := { stood := { row := clockTellsUptoRow, standIns := [], harness := (true, "156e6137bc81b1c5c52382dea679e0c0fe45858b5542f317f152e8383899672e"), looks := false }, kinds := [], alts := [], laidByText := true, laidKinds := [.data, .data, .data], laidTests := true, laidLooks := .later }
def ClockTellsUptoCardSaid : Prop := Claim7.holds Tryd.pinned (.plain (OpenSpec.upto clockTellsSpec)) clockTellsUptoCard

/-- THE SECOND FORM's CARD OF 'joustlaw28.ClockStays'. -/
def clockStaysUptoCard : Claim7 := { stood := { row := clockStaysUptoRow, standIns := [], harness := (true, "156e6137bc81b1c5c52382dea679e0c0fe45858b5542f317f152e8383899672e"), looks := false }, kinds := [], alts := [], laidByText := true, laidKinds := [.data, .data, .data], laidTests := true, laidLooks := .later }
def ClockStaysUptoCardSaid : Prop := Claim7.holds Tryd.pinned (.plain (OpenSpec.upto clockStaysSpec)) clockStaysUptoCard
end Rows
end Go.Proofs.YtcemekianoehfaaDoor
