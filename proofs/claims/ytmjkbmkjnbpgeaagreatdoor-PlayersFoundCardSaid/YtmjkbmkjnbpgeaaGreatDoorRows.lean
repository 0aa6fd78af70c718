/-
  NARROWER THAN 'FOR EVERY INPUT', by the rows' own cells (each row's printed sentence says how): PlayersInClubs: laid · PlayersFielded: laid · ClubsMeet: laid · PositionsGrow: laid · PlayersFound: laid.
  DERIVED. THE GIVEN ROWS OF THIS SEAT. 5 by the template 'for every input the law returns true; each argument reads behind the call as it read before'; 0 by the template 'total and deterministic' (their statements: YtmjkbmkjnbpgeaaGreatDoorTotals.lean).
  GIVEN WITH THE SEED: the statements are not yours to turn. If you find one false, say at which input.
  Laid BY PROGRAM, IN A SANDBOX (cutbox-rows.mjs): the forced cells as the released guide's own fill.sh prints them over the translation 899081fed7c2e8c8… (all of the seat's roots in one cut). By AI agents, Wed Nov 11 2026. No macro, syntax, notation, axiom, sorry.
-/
import Derived.Test.YtmjkbmkjnbpgeaaGreatDoorChecked
import GoSem.PinnedTables
import GoSem.Claim
import GoSem.ClaimJoined
import GoSem.ClaimMapViews
import Derived.JoinedTies
import Derived.KernelRfl
namespace Go.Proofs.YtmjkbmkjnbpgeaaGreatDoor
/- THE CELL 'sum', in the pinned program and in every row, IS THE sha256 OF THE DUMP (.gsa) THAT YtmjkbmkjnbpgeaaGreatDoorProg.lean LOADS. Nothing in Lean hashes anything: it is a label: what it is worth is what the hold of that sum in a sandbox is worth. -/
noncomputable def Tryz.pinned : Pinned := { name := "ytmjkbmkjnbpgeaagreatdoor", sum := "899081fed7c2e8c8b0b9e5aeab4aa91a3c9dde8644b41ab29b8a8ccbb83b5b77", checked := Tryz.checked }
namespace Rows
def none {H : Type} : Left H := { results := [], args := [] }

/- WHAT THE LISTED PACKAGE-LEVEL VARIABLES READ AS WHEN THE CALL BEGINS. Each datum BY PROGRAM (the guide's laid-datum.mjs) off the statement by which the dump's own 'gosem.cut.vars' lays the variable. In a bare row this is a premise. The card (YtmjkbmkjnbpgeaaGreatDoorCards.lean) ties it to the program's text. -/
def laid_unicode_utf8_acceptRanges {H : Type} : DataW H := .agg [.agg [.lit (.int .u8 128), .lit (.int .u8 191)], .agg [.lit (.int .u8 160), .lit (.int .u8 191)], .agg [.lit (.int .u8 128), .lit (.int .u8 159)], .agg [.lit (.int .u8 144), .lit (.int .u8 191)], .agg [.lit (.int .u8 128), .lit (.int .u8 143)], .agg [.lit (.int .u8 0), .lit (.int .u8 0)], .agg [.lit (.int .u8 0), .lit (.int .u8 0)], .agg [.lit (.int .u8 0), .lit (.int .u8 0)], .agg [.lit (.int .u8 0), .lit (.int .u8 0)], .agg [.lit (.int .u8 0), .lit (.int .u8 0)], .agg [.lit (.int .u8 0), .lit (.int .u8 0)], .agg [.lit (.int .u8 0), .lit (.int .u8 0)], .agg [.lit (.int .u8 0), .lit (.int .u8 0)], .agg [.lit (.int .u8 0), .lit (.int .u8 0)], .agg [.lit (.int .u8 0), .lit (.int .u8 0)], .agg [.lit (.int .u8 0), .lit (.int .u8 0)]]
/-- One of Go's own tables, pinned by name: the form's constant. -/
def laid_unicode_utf8_first : DataW Unit := Go.Pinned.utf8First

/-- 'benchlaw2.PlayersInClubs': WHATEVER THE INPUT: true; the input reads as it did. -/
def playersInClubsSpec : ChangeSpec := { name := "playersInClubs", fn := fun _ => fun
  | [d] => { results := [.lit (.bool true)], args := [d] }
  | _ => none }
def playersInClubsRow : OpenClaim := { program := "ytmjkbmkjnbpgeaagreatdoor", sum := "899081fed7c2e8c8b0b9e5aeab4aa91a3c9dde8644b41ab29b8a8ccbb83b5b77", func := "benchwarmer/benchlaw2.PlayersInClubs", spec := "playersInClubs", inPlace := ["internal/bytealg.IndexByteString", "internal/bytealg.IndexString", "internal/bytealg.abigen_runtime_cmpstring", "internal/abi.NoEscape", "internal/bytealg.MakeNoZero", "internal/bytealg.CountString"], unfollowed := true, recurses := true, named := ["internal/bytealg.MaxLen", "unicode/utf8.first", "unicode/utf8.acceptRanges"], apart := false, laid := [("unicode/utf8.acceptRanges", laid_unicode_utf8_acceptRanges), ("unicode/utf8.first", laid_unicode_utf8_first)] }
def PlayersInClubsSaid : Prop := playersInClubsRow.holds Tryz.pinned (OpenSpec.ofChange playersInClubsSpec)

/-- ITS FALSE NEIGHBOUR: 'it returns false'. Refute it at one input. -/
def playersInClubsWrong : ChangeSpec := { name := "playersInClubs", fn := fun _ => fun
  | [d] => { results := [.lit (.bool false)], args := [d] }
  | _ => none }
def PlayersInClubsWrongFalsely : Prop := playersInClubsRow.holds Tryz.pinned (OpenSpec.ofChange playersInClubsWrong)

/-- 'benchlaw2.PlayersFielded': WHATEVER THE INPUT: true; the input reads as it did. -/
def playersFieldedSpec : ChangeSpec := { name := "playersFielded", fn := fun _ => fun
  | [d] => { results := [.lit (.bool true)], args := [d] }
  | _ => none }
def playersFieldedRow : OpenClaim := { program := "ytmjkbmkjnbpgeaagreatdoor", sum := "899081fed7c2e8c8b0b9e5aeab4aa91a3c9dde8644b41ab29b8a8ccbb83b5b77", func := "benchwarmer/benchlaw2.PlayersFielded", spec := "playersFielded", inPlace := ["internal/bytealg.IndexByteString", "internal/bytealg.IndexString", "internal/bytealg.abigen_runtime_cmpstring", "internal/abi.NoEscape", "internal/bytealg.MakeNoZero", "internal/bytealg.CountString"], unfollowed := true, recurses := true, named := ["internal/bytealg.MaxLen", "unicode/utf8.first", "unicode/utf8.acceptRanges"], apart := false, laid := [("unicode/utf8.acceptRanges", laid_unicode_utf8_acceptRanges), ("unicode/utf8.first", laid_unicode_utf8_first)] }
def PlayersFieldedSaid : Prop := playersFieldedRow.holds Tryz.pinned (OpenSpec.ofChange playersFieldedSpec)

/-- ITS FALSE NEIGHBOUR: 'it returns false'. Refute it at one input. -/
def playersFieldedWrong : ChangeSpec := { name := "playersFielded", fn := fun _ => fun
  | [d] => { results := [.lit (.bool false)], args := [d] }
  | _ => none }
def PlayersFieldedWrongFalsely : Prop := playersFieldedRow.holds Tryz.pinned (OpenSpec.ofChange playersFieldedWrong)

/-- 'benchlaw2.ClubsMeet': WHATEVER THE INPUT: true; the input reads as it did. -/
def clubsMeetSpec : ChangeSpec := { name := "clubsMeet", fn := fun _ => fun
  | [d] => { results := [.lit (.bool true)], args := [d] }
  | _ => none }
def clubsMeetRow : OpenClaim := { program := "ytmjkbmkjnbpgeaagreatdoor", sum := "899081fed7c2e8c8b0b9e5aeab4aa91a3c9dde8644b41ab29b8a8ccbb83b5b77", func := "benchwarmer/benchlaw2.ClubsMeet", spec := "clubsMeet", inPlace := ["internal/bytealg.abigen_runtime_cmpstring", "internal/bytealg.IndexByteString", "internal/bytealg.IndexString", "internal/abi.NoEscape", "internal/bytealg.MakeNoZero", "internal/bytealg.CountString"], unfollowed := true, recurses := true, named := ["internal/bytealg.MaxLen", "unicode/utf8.first", "unicode/utf8.acceptRanges"], apart := false, laid := [("unicode/utf8.acceptRanges", laid_unicode_utf8_acceptRanges), ("unicode/utf8.first", laid_unicode_utf8_first)] }
def ClubsMeetSaid : Prop := clubsMeetRow.holds Tryz.pinned (OpenSpec.ofChange clubsMeetSpec)

/-- ITS FALSE NEIGHBOUR: 'it returns false'. Refute it at one input. -/
def clubsMeetWrong : ChangeSpec := { name := "clubsMeet", fn := fun _ => fun
  | [d] => { results := [.lit (.bool false)], args := [d] }
  | _ => none }
def ClubsMeetWrongFalsely : Prop := clubsMeetRow.holds Tryz.pinned (OpenSpec.ofChange clubsMeetWrong)

/-- 'benchlaw2.PositionsGrow': WHATEVER THE INPUT: true; the input reads as it did. -/
def positionsGrowSpec : ChangeSpec := { name := "positionsGrow", fn := fun _ => fun
  | [d] => { results := [.lit (.bool true)], args := [d] }
  | _ => none }
def positionsGrowRow : OpenClaim := { program := "ytmjkbmkjnbpgeaagreatdoor", sum := "899081fed7c2e8c8b0b9e5aeab4aa91a3c9dde8644b41ab29b8a8ccbb83b5b77", func := "benchwarmer/benchlaw2.PositionsGrow", spec := "positionsGrow", inPlace := ["internal/bytealg.IndexByteString", "internal/bytealg.IndexString", "internal/bytealg.abigen_runtime_cmpstring", "slices.overlaps[string]", "internal/abi.NoEscape", "internal/bytealg.MakeNoZero", "internal/bytealg.CountString"], unfollowed := true, recurses := true, named := ["internal/bytealg.MaxLen", "unicode/utf8.first", "unicode/utf8.acceptRanges"], apart := false, laid := [("unicode/utf8.acceptRanges", laid_unicode_utf8_acceptRanges), ("unicode/utf8.first", laid_unicode_utf8_first)] }
def PositionsGrowSaid : Prop := positionsGrowRow.holds Tryz.pinned (OpenSpec.ofChange positionsGrowSpec)

/-- ITS FALSE NEIGHBOUR: 'it returns false'. Refute it at one input. -/
def positionsGrowWrong : ChangeSpec := { name := "positionsGrow", fn := fun _ => fun
  | [d] => { results := [.lit (.bool false)], args := [d] }
  | _ => none }
def PositionsGrowWrongFalsely : Prop := positionsGrowRow.holds Tryz.pinned (OpenSpec.ofChange positionsGrowWrong)

/-- 'benchlaw2.PlayersFound': WHATEVER THE INPUT: true; the input reads as it did. -/
def playersFoundSpec : ChangeSpec := { name := "playersFound", fn := fun _ => fun
  | [d] => { results := [.lit (.bool true)], args := [d] }
  | _ => none }
def playersFoundRow : OpenClaim := { program := "ytmjkbmkjnbpgeaagreatdoor", sum := "899081fed7c2e8c8b0b9e5aeab4aa91a3c9dde8644b41ab29b8a8ccbb83b5b77", func := "benchwarmer/benchlaw2.PlayersFound", spec := "playersFound", inPlace := ["internal/abi.NoEscape", "internal/bytealg.MakeNoZero", "internal/bytealg.IndexByteString", "internal/bytealg.IndexString", "internal/bytealg.CountString"], unfollowed := true, recurses := true, named := ["internal/bytealg.MaxLen", "unicode/utf8.first", "unicode/utf8.acceptRanges"], apart := false, laid := [("unicode/utf8.acceptRanges", laid_unicode_utf8_acceptRanges), ("unicode/utf8.first", laid_unicode_utf8_first)] }
def PlayersFoundSaid : Prop := playersFoundRow.holds Tryz.pinned (OpenSpec.ofChange playersFoundSpec)

/-- ITS FALSE NEIGHBOUR: 'it returns false'. Refute it at one input. -/
def playersFoundWrong : ChangeSpec := { name := "playersFound", fn := fun _ => fun
  | [d] => { results := [.lit (.bool false)], args := [d] }
  | _ => none }
def PlayersFoundWrongFalsely : Prop := playersFoundRow.holds Tryz.pinned (OpenSpec.ofChange playersFoundWrong)

/- THE SECOND FORM. 'bulk': how many values and letters a reading holds, each counted each time it is reached (what is shared counts as often as it is met; a slice's spare places count too). A statement '..UptoSaid' is the law's where the arguments, and the package variables that the reading takes, are together of bulk at most 1048576: NARROWER than '..Said'. Prove '..Said' where nothing that the law and all that it calls make is longer than what came in: it says more and counts as full. Else prove '..UptoSaid'. A law counts once. -/
mutual
def uptoBulk {H : Type} : DataW H → Nat
  | .lit (.string bytes) => bytes.length + 1
  | .lit _ => 1
  | .nil => 1
  | .ptr d => uptoBulk d + 1
  | .slice elems spare => uptoBulkAll elems + uptoBulkAll spare + 1
  | .agg parts => uptoBulkAll parts + 1
  | .iface _ d => uptoBulk d + 1
  | .map entries => uptoBulkEntries entries + 1
  | .held _ => 1
def uptoBulkAll {H : Type} : List (DataW H) → Nat
  | [] => 0
  | d :: r => uptoBulk d + uptoBulkAll r
def uptoBulkEntries {H : Type} : List (Lit × DataW H) → Nat
  | [] => 0
  | x :: r => uptoBulkEntry x + uptoBulkEntries r
def uptoBulkEntry {H : Type} : Lit × DataW H → Nat
  | (.string bytes, d) => bytes.length + uptoBulk d + 1
  | (_, d) => uptoBulk d + 1
 end
def uptoSmall : (H : Type) → List (DataW H) → Bool := fun _ ds => decide (uptoBulkAll ds ≤ 1048576)
def OpenSpec.upto (s : _root_.Go.ChangeSpec) : _root_.Go.OpenSpec := { _root_.Go.OpenSpec.ofChange s with cond := some uptoSmall }

/-- 'benchlaw2.PlayersInClubs', WHERE WHAT IT READS IS OF BULK AT MOST 1048576: true; the input reads as it did. -/
def playersInClubsUptoRow : OpenClaim := { program := "ytmjkbmkjnbpgeaagreatdoor", sum := "899081fed7c2e8c8b0b9e5aeab4aa91a3c9dde8644b41ab29b8a8ccbb83b5b77", func := "benchwarmer/benchlaw2.PlayersInClubs", spec := "playersInClubs", inPlace := ["internal/bytealg.IndexByteString", "internal/bytealg.IndexString", "internal/bytealg.abigen_runtime_cmpstring", "internal/abi.NoEscape", "internal/bytealg.MakeNoZero", "internal/bytealg.CountString"], unfollowed := true, recurses := true, named := ["internal/bytealg.MaxLen", "unicode/utf8.first", "unicode/utf8.acceptRanges"], apart := false, laid := [("unicode/utf8.acceptRanges", laid_unicode_utf8_acceptRanges), ("unicode/utf8.first", laid_unicode_utf8_first)], narrowed := true }
def PlayersInClubsUptoSaid : Prop := playersInClubsUptoRow.holds Tryz.pinned (OpenSpec.upto playersInClubsSpec)

/-- 'benchlaw2.PlayersFielded', WHERE WHAT IT READS IS OF BULK AT MOST 1048576: true; the input reads as it did. -/
def playersFieldedUptoRow : OpenClaim := { program := "ytmjkbmkjnbpgeaagreatdoor", sum := "899081fed7c2e8c8b0b9e5aeab4aa91a3c9dde8644b41ab29b8a8ccbb83b5b77", func := "benchwarmer/benchlaw2.PlayersFielded", spec := "playersFielded", inPlace := ["internal/bytealg.IndexByteString", "internal/bytealg.IndexString", "internal/bytealg.abigen_runtime_cmpstring", "internal/abi.NoEscape", "internal/bytealg.MakeNoZero", "internal/bytealg.CountString"], unfollowed := true, recurses := true, named := ["internal/bytealg.MaxLen", "unicode/utf8.first", "unicode/utf8.acceptRanges"], apart := false, laid := [("unicode/utf8.acceptRanges", laid_unicode_utf8_acceptRanges), ("unicode/utf8.first", laid_unicode_utf8_first)], narrowed := true }
def PlayersFieldedUptoSaid : Prop := playersFieldedUptoRow.holds Tryz.pinned (OpenSpec.upto playersFieldedSpec)

/-- 'benchlaw2.ClubsMeet', WHERE WHAT IT READS IS OF BULK AT MOST 1048576: true; the input reads as it did. -/
def clubsMeetUptoRow : OpenClaim := { program := "ytmjkbmkjnbpgeaagreatdoor", sum := "899081fed7c2e8c8b0b9e5aeab4aa91a3c9dde8644b41ab29b8a8ccbb83b5b77", func := "benchwarmer/benchlaw2.ClubsMeet", spec := "clubsMeet", inPlace := ["internal/bytealg.abigen_runtime_cmpstring", "internal/bytealg.IndexByteString", "internal/bytealg.IndexString", "internal/abi.NoEscape", "internal/bytealg.MakeNoZero", "internal/bytealg.CountString"], unfollowed := true, recurses := true, named := ["internal/bytealg.MaxLen", "unicode/utf8.first", "unicode/utf8.acceptRanges"], apart := false, laid := [("unicode/utf8.acceptRanges", laid_unicode_utf8_acceptRanges), ("unicode/utf8.first", laid_unicode_utf8_first)], narrowed := true }
def ClubsMeetUptoSaid : Prop := clubsMeetUptoRow.holds Tryz.pinned (OpenSpec.upto clubsMeetSpec)

/-- 'benchlaw2.PositionsGrow', WHERE WHAT IT READS IS OF BULK AT MOST 1048576: true; the input reads as it did. -/
def positionsGrowUptoRow : OpenClaim := { program := "ytmjkbmkjnbpgeaagreatdoor", sum := "899081fed7c2e8c8b0b9e5aeab4aa91a3c9dde8644b41ab29b8a8ccbb83b5b77", func := "benchwarmer/benchlaw2.PositionsGrow", spec := "positionsGrow", inPlace := ["internal/bytealg.IndexByteString", "internal/bytealg.IndexString", "internal/bytealg.abigen_runtime_cmpstring", "slices.overlaps[string]", "internal/abi.NoEscape", "internal/bytealg.MakeNoZero", "internal/bytealg.CountString"], unfollowed := true, recurses := true, named := ["internal/bytealg.MaxLen", "unicode/utf8.first", "unicode/utf8.acceptRanges"], apart := false, laid := [("unicode/utf8.acceptRanges", laid_unicode_utf8_acceptRanges), ("unicode/utf8.first", laid_unicode_utf8_first)], narrowed := true }
def PositionsGrowUptoSaid : Prop := positionsGrowUptoRow.holds Tryz.pinned (OpenSpec.upto positionsGrowSpec)

/-- 'benchlaw2.PlayersFound', WHERE WHAT IT READS IS OF BULK AT MOST 1048576: true; the input reads as it did. -/
def playersFoundUptoRow : OpenClaim := { program := "ytmjkbmkjnbpgeaagreatdoor", sum := "899081fed7c2e8c8b0b9e5aeab4aa91a3c9dde8644b41ab29b8a8ccbb83b5b77", func := "benchwarmer/benchlaw2.PlayersFound", spec := "playersFound", inPlace := ["internal/abi.NoEscape", "internal/bytealg.MakeNoZero", "internal/bytealg.IndexByteString", "internal/bytealg.IndexString", "internal/bytealg.CountString"], unfollowed := true, recurses := true, named := ["internal/bytealg.MaxLen", "unicode/utf8.first", "unicode/utf8.acceptRanges"], apart := false, laid := [("unicode/utf8.acceptRanges", laid_unicode_utf8_acceptRanges), ("unicode/utf8.first", laid_unicode_utf8_first)], narrowed := true }
def PlayersFoundUptoSaid : Prop := playersFoundUptoRow.holds Tryz.pinned (OpenSpec.upto playersFoundSpec)

end Rows
end Go.Proofs.YtmjkbmkjnbpgeaaGreatDoor
