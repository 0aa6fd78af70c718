/- Fractions: the greatest common divisor, lowest terms, hundredths, on both sides. -/
import Derived.Test.YtddnnjblpgfjeaaGreatDoorMgal
import Derived.Laws.ResultCell
import Derived.OwnWalk
namespace Go.Proofs.YtddnnjblpgfjeaaGreatDoor
open Go.RowKit

def Int64 (x : Int) : Prop := -9223372036854775808 ≤ x ∧ x ≤ 9223372036854775807
theorem cells_later {w w' : World} {T g : Nat} {cur : Array Value} (h : w.heap[g]? = some (.cells cur T (0, 0))) (hb : Below w.heap.size w w') : w'.heap[g]? = some (.cells cur T (0, 0)) := (hb.block _ (lt_of_heap h)).trans h
theorem cell_at {w : World} {T g : Nat} {cur : Array Value} {u : Value} (h : w.heap[g]? = some (.cells cur T (0, 0))) (o : Nat) (hu : cur[o]? = some u) : w.cell? ⟨g, o, none⟩ = some u := by rw [cell_of_row w g o cur T (0, 0) h, hu]
end Go.Proofs.YtddnnjblpgfjeaaGreatDoor
