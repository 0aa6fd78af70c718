/-
  DERIVED. GIVEN WITH THE SEED: THE CARDS: each row of YtmjkbmkjnbpgeaaGreatDoorRows.lean that lists a variable, with what it lists TIED to the program's text (the seventh form; the later family's looks); each row that meets fmt, with fmt's text TOLD by the authors' own Lean function (tested against real Go, not proved from fmt's source: count such statements apart). THE CARD IS WHAT COUNTS. Prove the row's statement (the work); the ties are given (YtmjkbmkjnbpgeaaGreatDoorTie.lean); close each card by the builder's one call (the guide's Derived/Test/ToyasCard.lean, 'card_holds'). Laid BY PROGRAM, IN A SANDBOX (cutbox-door.mjs). By AI agents, Wed Nov 11 2026. No macro, syntax, notation, axiom, sorry.
-/
import Derived.Test.YtmjkbmkjnbpgeaaGreatDoorRows
import GoSem.ClaimSeven
namespace Go.Proofs.YtmjkbmkjnbpgeaaGreatDoor
namespace Rows

/-- THE TIED CARD OF 'benchlaw2.PlayersInClubs'. -/
def playersInClubsCard : Claim7 := { stood := { row := playersInClubsRow, standIns := [], harness := (true, "3f63f39121a5eb962feb3c3aa8507240de8020c2b8711d0a95969629809c613d"), looks := false }, kinds := [], alts := [], laidByText := true, laidKinds := [.data, .pinned], laidTests := true, laidLooks := .later }
def PlayersInClubsCardSaid : Prop := Claim7.holds Tryz.pinned (.plain (OpenSpec.ofChange playersInClubsSpec)) playersInClubsCard

/-- THE TIED CARD OF 'benchlaw2.PlayersFielded'. -/
def playersFieldedCard : Claim7 := { stood := { row := playersFieldedRow, standIns := [], harness := (true, "3f63f39121a5eb962feb3c3aa8507240de8020c2b8711d0a95969629809c613d"), looks := false }, kinds := [], alts := [], laidByText := true, laidKinds := [.data, .pinned], laidTests := true, laidLooks := .later }
def PlayersFieldedCardSaid : Prop := Claim7.holds Tryz.pinned (.plain (OpenSpec.ofChange playersFieldedSpec)) playersFieldedCard

/-- THE TIED CARD OF 'benchlaw2.ClubsMeet'. -/
def clubsMeetCard : Claim7 := { stood := { row := clubsMeetRow, standIns := [], harness := (true, "3f63f39121a5eb962feb3c3aa8507240de8020c2b8711d0a95969629809c613d"), looks := false }, kinds := [], alts := [], laidByText := true, laidKinds := [.data, .pinned], laidTests := true, laidLooks := .later }
def ClubsMeetCardSaid : Prop := Claim7.holds Tryz.pinned (.plain (OpenSpec.ofChange clubsMeetSpec)) clubsMeetCard

/-- THE TIED CARD OF 'benchlaw2.PositionsGrow'. -/
def positionsGrowCard : Claim7 := { stood := { row := positionsGrowRow, standIns := [], harness := (true, "3f63f39121a5eb962feb3c3aa8507240de8020c2b8711d0a95969629809c613d"), looks := false }, kinds := [], alts := [], laidByText := true, laidKinds := [.data, .pinned], laidTests := true, laidLooks := .later }
def PositionsGrowCardSaid : Prop := Claim7.holds Tryz.pinned (.plain (OpenSpec.ofChange positionsGrowSpec)) positionsGrowCard

/-- THE TIED CARD OF 'benchlaw2.PlayersFound'. -/
def playersFoundCard : Claim7 := { stood := { row := playersFoundRow, standIns := [], harness := (true, "3f63f39121a5eb962feb3c3aa8507240de8020c2b8711d0a95969629809c613d"), looks := false }, kinds := [], alts := [], laidByText := true, laidKinds := [.data, .pinned], laidTests := true, laidLooks := .later }
def PlayersFoundCardSaid : Prop := Claim7.holds Tryz.pinned (.plain (OpenSpec.ofChange playersFoundSpec)) playersFoundCard

/-- THE SECOND FORM's CARD OF 'benchlaw2.PlayersInClubs'. -/
def playersInClubsUptoCard : Claim7 := { stood := { row := playersInClubsUptoRow, standIns := [], harness := (true, "3f63f39121a5eb962feb3c3aa8507240de8020c2b8711d0a95969629809c613d"), looks := false }, kinds := [], alts := [], laidByText := true, laidKinds := [.data, .pinned], laidTests := true, laidLooks := .later }
def PlayersInClubsUptoCardSaid : Prop := Claim7.holds Tryz.pinned (.plain (OpenSpec.upto playersInClubsSpec)) playersInClubsUptoCard

/-- THE SECOND FORM's CARD OF 'benchlaw2.PlayersFielded'. -/
def playersFieldedUptoCard : Claim7 := { stood := { row := playersFieldedUptoRow, standIns := [], harness := (true, "3f63f39121a5eb962feb3c3aa8507240de8020c2b8711d0a95969629809c613d"), looks := false }, kinds := [], alts := [], laidByText := true, laidKinds := [.data, .pinned], laidTests := true, laidLooks := .later }
def PlayersFieldedUptoCardSaid : Prop := Claim7.holds Tryz.pinned (.plain (OpenSpec.upto playersFieldedSpec)) playersFieldedUptoCard

/-- THE SECOND FORM's CARD OF 'benchlaw2.ClubsMeet'. -/
def clubsMeetUptoCard : Claim7 := { stood := { row := clubsMeetUptoRow, standIns := [], harness := (true, "3f63f39121a5eb962feb3c3aa8507240de8020c2b8711d0a95969629809c613d"), looks := false }, kinds := [], alts := [], laidByText := true, laidKinds := [.data, .pinned], laidTests := true, laidLooks := .later }
def ClubsMeetUptoCardSaid : Prop := Claim7.holds Tryz.pinned (.plain (OpenSpec.upto clubsMeetSpec)) clubsMeetUptoCard

/-- THE SECOND FORM's CARD OF 'benchlaw2.PositionsGrow'. -/
def positionsGrowUptoCard : Claim7 := { stood := { row := positionsGrowUptoRow, standIns := [], harness := (true, "3f63f39121a5eb962feb3c3aa8507240de8020c2b8711d0a95969629809c613d"), looks := false }, kinds := [], alts := [], laidByText := true, laidKinds := [.data, .pinned], laidTests := true, laidLooks := .later }
def PositionsGrowUptoCardSaid : Prop := Claim7.holds Tryz.pinned (.plain (OpenSpec.upto positionsGrowSpec)) positionsGrowUptoCard

/-- THE SECOND FORM's CARD OF 'benchlaw2.PlayersFound'. -/
def playersFoundUptoCard : Claim7 := { stood := { row := playersFoundUptoRow, standIns := [], harness := (true, "3f63f39121a5eb962feb3c3aa8507240de8020c2b8711d0a95969629809c613d"), looks := false }, kinds := [], alts := [], laidByText := true, laidKinds := [.data, .pinned], laidTests := true, laidLooks := .later }
def PlayersFoundUptoCardSaid : Prop := Claim7.holds Tryz.pinned (.plain (OpenSpec.upto playersFoundSpec)) playersFoundUptoCard
end Rows
end Go.Proofs.YtmjkbmkjnbpgeaaGreatDoor
