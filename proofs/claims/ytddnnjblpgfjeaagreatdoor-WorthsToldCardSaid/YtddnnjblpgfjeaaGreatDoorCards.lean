/-
  DERIVED. GIVEN WITH THE SEED: THE CARDS: each row of YtddnnjblpgfjeaaGreatDoorRows.lean that lists a variable, with what it lists TIED to the program's text (the seventh form; the later family's looks); each row that meets fmt, with fmt's text TOLD by the authors' own Lean function (tested against real Go, not proved from fmt's source: count such statements apart). THE CARD IS WHAT COUNTS. Prove the row's statement (the work); the ties are given (YtddnnjblpgfjeaaGreatDoorTie.lean); close each card by the builder's one call (the guide's Derived/Test/ToyasCard.lean, 'card_holds'). Laid BY PROGRAM, IN A SANDBOX (cutbox-door.mjs). By AI agents, Wed Nov 11 2026. No macro, syntax, notation, axiom, sorry.
-/
import Derived.Test.YtddnnjblpgfjeaaGreatDoorRows
import GoSem.ClaimSeven
namespace Go.Proofs.YtddnnjblpgfjeaaGreatDoor
namespace Rows

/-- THE TIED CARD OF 'benchlaw1.TurnsTaken'. -/
def turnsTakenCard : Claim7 := { stood := { row := turnsTakenRow, standIns := [], harness := (true, "8c8b25870ede87180f5ac71265d44e5386ef0ae10ad52c1f28f350153860da16"), looks := false }, kinds := [], alts := [], laidByText := true, laidKinds := [.data, .data, .data, .data, .pinned], laidTests := true, laidLooks := .later }
def TurnsTakenCardSaid : Prop := Claim7.holds Tryz.pinned (.plain (OpenSpec.ofChange turnsTakenSpec)) turnsTakenCard

/-- THE TIED CARD OF 'benchlaw1.WorthsTold'. -/
def worthsToldCard : Claim7 := { stood := { row := worthsToldRow, standIns := [], harness := (true, "8c8b25870ede87180f5ac71265d44e5386ef0ae10ad52c1f28f350153860da16"), looks := false }, kinds := [], alts := [], laidByText := true, laidKinds := [.data, .data, .data, .data, .pinned], laidTests := true, laidLooks := .later }
def WorthsToldCardSaid : Prop := Claim7.holds Tryz.pinned (.plain (OpenSpec.ofChange worthsToldSpec)) worthsToldCard

/-- THE TIED CARD OF 'benchlaw1.TeamsFielded'. -/
def teamsFieldedCard : Claim7 := { stood := { row := teamsFieldedRow, standIns := [], harness := (true, "8c8b25870ede87180f5ac71265d44e5386ef0ae10ad52c1f28f350153860da16"), looks := false }, kinds := [], alts := [], laidByText := true, laidKinds := [.data, .data, .data, .data, .pinned], laidTests := true, laidLooks := .later }
def TeamsFieldedCardSaid : Prop := Claim7.holds Tryz.pinned (.plain (OpenSpec.ofChange teamsFieldedSpec)) teamsFieldedCard

/-- THE SECOND FORM's CARD OF 'benchlaw1.TurnsTaken'. -/
def turnsTakenUptoCard : Claim7 := { stood := { row := turnsTakenUptoRow, standIns := [], harness := (true, "8c8b25870ede87180f5ac71265d44e5386ef0ae10ad52c1f28f350153860da16"), looks := false }, kinds := [], alts := [], laidByText := true, laidKinds := [.data, .data, .data, .data, .pinned], laidTests := true, laidLooks := .later }
def TurnsTakenUptoCardSaid : Prop := Claim7.holds Tryz.pinned (.plain (OpenSpec.upto turnsTakenSpec)) turnsTakenUptoCard

/-- THE SECOND FORM's CARD OF 'benchlaw1.WorthsTold'. -/
def worthsToldUptoCard : Claim7 := { stood := { row := worthsToldUptoRow, standIns := [], harness := (true, "8c8b25870ede87180f5ac71265d44e5386ef0ae10ad52c1f28f350153860da16"), looks := false }, kinds := [], alts := [], laidByText := true, laidKinds := [.data, .data, .data, .data, .pinned], laidTests := true, laidLooks := .later }
def WorthsToldUptoCardSaid : Prop := Claim7.holds Tryz.pinned (.plain (OpenSpec.upto worthsToldSpec)) worthsToldUptoCard

/-- THE SECOND FORM's CARD OF 'benchlaw1.TeamsFielded'. -/
def teamsFieldedUptoCard : Claim7 := { stood := { row := teamsFieldedUptoRow, standIns := [], harness := (true, "8c8b25870ede87180f5ac71265d44e5386ef0ae10ad52c1f28f350153860da16"), looks := false }, kinds := [], alts := [], laidByText := true, laidKinds := [.data, .data, .data, .data, .pinned], laidTests := true, laidLooks := .later }
def TeamsFieldedUptoCardSaid : Prop := Claim7.holds Tryz.pinned (.plain (OpenSpec.upto teamsFieldedSpec)) teamsFieldedUptoCard
end Rows
end Go.Proofs.YtddnnjblpgfjeaaGreatDoor
