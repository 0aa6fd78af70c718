/-
  DERIVED. GIVEN WITH THE SEED: THE CARDS: each row of YtfakhapljjbbnaaDoorRows.lean that lists a variable, with what it lists TIED to the program's text (the seventh form; the later family's looks); each row that meets fmt, with fmt's text TOLD by the authors' own Lean function (tested against real Go, not proved from fmt's source: count such statements apart). THE CARD IS WHAT COUNTS. Prove the row's statement (the work); the ties are given (YtfakhapljjbbnaaDoorTie.lean); close each card by the builder's one call (the guide's Derived/Test/ToyasCard.lean, 'card_holds'). Laid BY PROGRAM, IN A SANDBOX (cutbox-door.mjs). By AI agents, Wed Nov 11 2026. No macro, syntax, notation, axiom, sorry.
-/
import Derived.Test.YtfakhapljjbbnaaDoorRows
import GoSem.ClaimSeven
namespace Go.Proofs.YtfakhapljjbbnaaDoor
namespace Rows

/-- THE TIED CARD OF 'benchlaw2.LinesScored'. -/
def linesScoredCard : Claim7 := { stood := { row := linesScoredRow, standIns := [], harness := (true, "d9f257f39a95ff5e07506df2a42ea6a54e65d9a2362762a508b8808f1dac64e4"), looks := false }, kinds := [], alts := [], laidByText := true, laidKinds := [.data, .data, .data], laidTests := true, laidLooks := .later }
def LinesScoredCardSaid : Prop := Claim7.holds Tryd.pinned (.plain (OpenSpec.ofChange linesScoredSpec)) linesScoredCard

/-- THE SECOND FORM's CARD OF 'benchlaw2.LinesScored'. -/
def linesScoredUptoCard : Claim7 := { stood := { row := linesScoredUptoRow, standIns := [], harness := (true, "d9f257f39a95ff5e07506df2a42ea6a54e65d9a2362762a508b8808f1dac64e4"), looks := false }, kinds := [], alts := [], laidByText := true, laidKinds := [.data, .data, .data], laidTests := true, laidLooks := .later }
def LinesScoredUptoCardSaid : Prop := Claim7.holds Tryd.pinned (.plain (OpenSpec.upto linesScoredSpec)) linesScoredUptoCard
end Rows
end Go.Proofs.YtfakhapljjbbnaaDoor
