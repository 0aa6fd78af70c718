/- For every tape of numbers the law WorthsTold returns true and the tape reads as before: on the assets, the places, the number of teams and the budget drawn from it, CheckAssets, CheckPlaces, Levels, Worths and Prices answer what the specification answers.
 Conditions: the tables of math/bits, internal/strconv and unicode/utf8 start as the library's text lays them (the card ties them); internal/bytealg.MaxLen may hold any number. -/
import Derived.Test.YtddnnjblpgfjeaaGreatDoorMgbi
namespace Go.Proofs.YtddnnjblpgfjeaaGreatDoor.worthsTold
open Go.ChangeShapes Go.WideShapes Go.ChangeAt Go.RowKit

/-- No parameter wants a stand-in; the program's own looks are as the row says: what the card asks. -/
theorem plain (f : FuncId) (fn : Func) (hf : Tryz.pinned.checked.prog.funcNamed "benchwarmer/benchlaw1.WorthsTold" = some f) (hfn : Tryz.pinned.checked.prog.funcs[f]? = some fn) :
  false = Tryz.pinned.checked.prog.looks [] ∧ ∀ (j : Nat) t, fn.params[j]? = some t → Tryz.pinned.checked.prog.wantsStandIn t = false := by
 obtain rfl : f = 4 := Option.some.inj ((show Tryz.prog.funcNamed "benchwarmer/benchlaw1.WorthsTold" = some 4 by kernel_rfl).symm.trans hf) |>.symm
 obtain rfl : fn = Tryz.f4 := (Option.some.inj (Tryz.func4.symm.trans hfn)).symm
 refine ⟨by kernel_rfl, fun j t ht => ?_⟩
 rw [Tryz.params4] at ht
 obtain rfl : t = 22 := by simpa using Array.mem_of_getElem? ht
 exact (show Tryz.prog.wantsStandIn 22 = false by kernel_rfl)
/-- The card. -/
theorem card : Rows.WorthsToldCardSaid :=
 Claim7.holds_tied_plain_at .later [] _ _ _ _ said (fun _ h => by cases h) (by kernel_rfl) (fun _ h => by cases h) worthsTold_row_tie rfl ⟨rfl, rfl⟩ (by kernel_rfl) rfl plain (by kernel_rfl)
end Go.Proofs.YtddnnjblpgfjeaaGreatDoor.worthsTold
namespace Go.Proofs.YtddnnjblpgfjeaaGreatDoor
theorem worthsTold_holds : Rows.WorthsToldCardSaid := worthsTold.card
end Go.Proofs.YtddnnjblpgfjeaaGreatDoor
