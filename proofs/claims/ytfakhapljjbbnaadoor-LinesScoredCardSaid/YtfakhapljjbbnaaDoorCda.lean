/- For every tape of numbers the law LinesScored returns true and the tape reads as before: on the rules, positions and line drawn from it, CheckLine, CheckRules, Points and Parts answer as the reference does, and Points answers as the one example says.
  Conditions: the tables math/bits.deBruijn32tab, math/bits.deBruijn64tab and internal/strconv.uint64pow10 start as the library's text lays them (the card ties them). -/
import Derived.Test.YtfakhapljjbbnaaDoorCdab
namespace Go.Proofs.YtfakhapljjbbnaaDoor.linesScored
open Go.ChangeShapes Go.WideShapes Go.ChangeAt Go.RowKit

/-- No parameter wants a stand-in; the program's own looks are as the row says: what the card asks. -/
theorem plain (f : FuncId) (fn : Func) (hf : Tryd.pinned.checked.prog.funcNamed "benchwarmer/benchlaw2.LinesScored" = some f) (hfn : Tryd.pinned.checked.prog.funcs[f]? = some fn) :
    false = Tryd.pinned.checked.prog.looks [] ∧ ∀ (j : Nat) t, fn.params[j]? = some t → Tryd.pinned.checked.prog.wantsStandIn t = false := by
  obtain rfl : f = 3 := Option.some.inj ((show Tryd.prog.funcNamed "benchwarmer/benchlaw2.LinesScored" = some 3 by kernel_rfl).symm.trans hf) |>.symm
  obtain rfl : fn = Tryd.f3 := (Option.some.inj (Tryd.func3.symm.trans hfn)).symm
  refine ⟨by kernel_rfl, fun j t ht => ?_⟩
  rw [Tryd.params3] at ht
  obtain rfl : t = 22 := by simpa using Array.mem_of_getElem? ht
  exact (show Tryd.prog.wantsStandIn 22 = false by kernel_rfl)
/-- The card. -/
theorem card : Rows.LinesScoredCardSaid :=
  Claim7.holds_tied_plain_at .later [] _ _ _ _ said (fun _ h => by cases h) (by kernel_rfl) (fun _ h => by cases h) linesScored_row_tie rfl ⟨rfl, rfl⟩ (by kernel_rfl) rfl plain (by kernel_rfl)
end Go.Proofs.YtfakhapljjbbnaaDoor.linesScored
namespace Go.Proofs.YtfakhapljjbbnaaDoor
theorem linesScored_holds : Rows.LinesScoredCardSaid := linesScored.card
end Go.Proofs.YtfakhapljjbbnaaDoor
