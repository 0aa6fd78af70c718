/- A binary search over rows by a comparing function. -/
import Derived.Test.YtddnnjblpgfjeaaGreatDoorMgag
import Derived.Test.YtddnnjblpgfjeaaGreatDoorMgao
namespace Go.Proofs.YtddnnjblpgfjeaaGreatDoor
open Go.RowKit

/-- How element k stands to what is looked for. -/
def kAt {α : Type} (c : α → Int) (xs : List α) (k : Nat) : Int := match xs[k]? with | some x => c x | none => 1
theorem kAt_some {α : Type} {c : α → Int} {xs : List α} {k : Nat} {x : α} (h : xs[k]? = some x) : kAt c xs k = c x := by unfold kAt; rw [h]
/-- What a search answers. -/
def FoundC {α : Type} (c : α → Int) (xs : List α) (w : World) (e : Ending) (w' : World) : Prop := e = .returned (.tuple #[.int .i64 (bsCI (kAt c xs) xs.length : Int), .bool (bsCB (kAt c xs) xs.length)]) ∧ Below w.heap.size w w'
end Go.Proofs.YtddnnjblpgfjeaaGreatDoor
