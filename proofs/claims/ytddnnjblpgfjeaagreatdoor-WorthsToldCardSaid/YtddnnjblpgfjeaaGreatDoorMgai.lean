/- check.Rising: keys that rise. -/
import Derived.Test.YtddnnjblpgfjeaaGreatDoorMgag
import Derived.Test.YtddnnjblpgfjeaaGreatDoorMgab
import Derived.Test.YtddnnjblpgfjeaaGreatDoorMgaa
import Derived.Test.YtddnnjblpgfjeaaGreatDoorMgac
import Derived.IntWalk
namespace Go.Proofs.YtddnnjblpgfjeaaGreatDoor
open Go.RowKit

theorem below_step {W0 a b : World} (h : Below W0.heap.size W0 a) (k : Below a.heap.size a b) : Below W0.heap.size W0 b := h.trans (k.mono h.size)
theorem nums2 (w : World) (T : Nat) (a b : Int) : NumsAt (w.alloc (.cells #[.int .i64 a, .int .i64 b] T)) w.heap.size 0 [a, b] := by
 intro i x hx
 rw [World.cell?_alloc_at _ _ _ _ rfl]
 match i, hx with
 | 0, hx => simp at hx; subst hx; rfl
 | 1, hx => simp at hx; subst hx; rfl

end Go.Proofs.YtddnnjblpgfjeaaGreatDoor
