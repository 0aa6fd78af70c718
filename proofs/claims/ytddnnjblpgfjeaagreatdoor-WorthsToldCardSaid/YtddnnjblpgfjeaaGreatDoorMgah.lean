/- A binary search over keys, told plainly. -/
import Derived.Test.YtddnnjblpgfjeaaGreatDoorMgag
import Derived.Test.YtddnnjblpgfjeaaGreatDoorMgab
namespace Go.Proofs.YtddnnjblpgfjeaaGreatDoor
open Go.RowKit

def BoolIs (b : Bool) (w : World) (e : Ending) (w' : World) : Prop := e = .returned (.bool b) ∧ Below w.heap.size w w'
end Go.Proofs.YtddnnjblpgfjeaaGreatDoor
