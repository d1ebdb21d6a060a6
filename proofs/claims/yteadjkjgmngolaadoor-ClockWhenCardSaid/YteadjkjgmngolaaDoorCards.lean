/-
  DERIVED. GIVEN WITH THE SEED: THE CARDS: each row of YteadjkjgmngolaaDoorRows.lean that lists a variable, with what it lists TIED to the program's text (the seventh form; the later family's looks); each row that meets fmt, with fmt's text TOLD by the authors' own Lean function (tested against real Go, not proved from fmt's source: count such statements apart). THE CARD IS WHAT COUNTS. Prove the row's statement (the work); the ties are given (YteadjkjgmngolaaDoorTie.lean); close each card by the builder's one call (the guide's Derived/Test/ToyasCard.lean, 'card_holds'). Laid BY PROGRAM, IN A SANDBOX (cutbox-door.mjs). By AI agents, Wed Nov 11 2026. No macro, syntax, notation, axiom, sorry.
-/
import Derived.Test.YteadjkjgmngolaaDoorRows
import GoSem.ClaimSeven
namespace Go.Proofs.YteadjkjgmngolaaDoor
namespace Rows

/-- THE TIED CARD OF 'joustlaw28.ClockTells'. -/
def clockTellsCard : Claim7 := { stood := { row := clockTellsRow, standIns := [], harness := (true, "7add8b5832fbb497111c59270b474e9995e52b07fd3b441bf23d462b8c4d9776"), looks := false }, kinds := [], alts := [], laidByText := true, laidKinds := [.data, .data, .data], laidTests := true, laidLooks := .later }
def ClockTellsCardSaid : Prop := Claim7.holds Tryd.pinned (.plain (OpenSpec.ofChange clockTellsSpec)) clockTellsCard

/-- THE TIED CARD OF 'joustlaw28.ClockWhen'. -/
def clockWhenCard : Claim7 := { stood := { row := clockWhenRow, standIns := [], harness := (true, "7add8b5832fbb497111c59270b474e9995e52b07fd3b441bf23d462b8c4d9776"), looks := false }, kinds := [], alts := [], laidByText := true, laidKinds := [.data, .data, .data], laidTests := true, laidLooks := .later }
def ClockWhenCardSaid : Prop := Claim7.holds Tryd.pinned (.plain (OpenSpec.ofChange clockWhenSpec)) clockWhenCard

/-- THE SECOND FORM's CARD OF 'joustlaw28.ClockTells'. -/
def clockTellsUptoCard : Claim7 := { stood := { row := clockTellsUptoRow, standIns := [], harness := (true, "7add8b5832fbb497111c59270b474e9995e52b07fd3b441bf23d462b8c4d9776"), looks := false }, kinds := [], alts := [], laidByText := true, laidKinds := [.data, .data, .data], laidTests := true, laidLooks := .later }
def ClockTellsUptoCardSaid : Prop := Claim7.holds Tryd.pinned (.plain (OpenSpec.upto clockTellsSpec)) clockTellsUptoCard

/-- THE SECOND FORM's CARD OF 'joustlaw28.ClockWhen'. -/
def clockWhenUptoCard : Claim7 := { stood := { row := clockWhenUptoRow, standIns := [], harness := (true, "7add8b5832fbb497111c59270b474e9995e52b07fd3b441bf23d462b8c4d9776"), looks := false }, kinds := [], alts := [], laidByText := true, laidKinds := [.data, .data, .data], laidTests := true, laidLooks := .later }
def ClockWhenUptoCardSaid : Prop := Claim7.holds Tryd.pinned (.plain (OpenSpec.upto clockWhenSpec)) clockWhenUptoCard
end Rows
end Go.Proofs.YteadjkjgmngolaaDoor
