/- For every tape of numbers the law PlayersFound returns true and the tape reads as before: on the players, query and text of players drawn from it, Find, Text and Read answer as the reference does, and Find answers as the one example says.
  Conditions: the two tables unicode/utf8.first and unicode/utf8.acceptRanges start as the library's text lays them (the card ties them); internal/bytealg.MaxLen may hold any number. -/
import Derived.Test.YtmjkbmkjnbpgeaaGreatDoorCardhb
namespace Go.Proofs.YtmjkbmkjnbpgeaaGreatDoor.playersFound
open Go.ChangeShapes Go.WideShapes Go.ChangeAt Go.RowKit

/-- No parameter wants a stand-in; the program's own looks are as the row says: what the card asks. -/
theorem plain (f : FuncId) (fn : Func) (hf : Tryz.pinned.checked.prog.funcNamed "benchwarmer/benchlaw2.PlayersFound" = some f) (hfn : Tryz.pinned.checked.prog.funcs[f]? = some fn) :
    false = Tryz.pinned.checked.prog.looks [] ∧ ∀ (j : Nat) t, fn.params[j]? = some t → Tryz.pinned.checked.prog.wantsStandIn t = false := by
  obtain rfl : f = 7 := Option.some.inj ((show Tryz.prog.funcNamed "benchwarmer/benchlaw2.PlayersFound" = some 7 by kernel_rfl).symm.trans hf) |>.symm
  obtain rfl : fn = Tryz.f7 := (Option.some.inj (Tryz.func7.symm.trans hfn)).symm
  refine ⟨by kernel_rfl, fun j t ht => ?_⟩
  rw [Tryz.params7] at ht
  obtain rfl : t = 22 := by simpa using Array.mem_of_getElem? ht
  exact (show Tryz.prog.wantsStandIn 22 = false by kernel_rfl)
/-- The card. -/
theorem card : Rows.PlayersFoundCardSaid :=
  Claim7.holds_tied_plain_at .later [] _ _ _ _ said (fun _ h => by cases h) (by kernel_rfl) (fun _ h => by cases h) playersFound_row_tie rfl ⟨rfl, rfl⟩ (by kernel_rfl) rfl plain (by kernel_rfl)
end Go.Proofs.YtmjkbmkjnbpgeaaGreatDoor.playersFound
namespace Go.Proofs.YtmjkbmkjnbpgeaaGreatDoor
theorem playersFound_holds : Rows.PlayersFoundCardSaid := playersFound.card
end Go.Proofs.YtmjkbmkjnbpgeaaGreatDoor
