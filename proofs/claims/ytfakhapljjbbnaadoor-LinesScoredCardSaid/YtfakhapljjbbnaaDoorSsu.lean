/- Sums. -/
import Derived.Test.YtfakhapljjbbnaaDoorSpe
namespace Go.Proofs.YtfakhapljjbbnaaDoor
open Go.RowKit

theorem sum_take {α : Type} (g : α → Int) {l : List α} {k : Nat} {x : α} (h : l[k]? = some x) : sumI ((l.take (k + 1)).map g) = sumI ((l.take k).map g) + g x := by
  rw [List.take_add_one, h, List.map_append]
  exact sumI_snoc _ _
theorem sum_small {α : Type} (g : α → Int) {B : Int} (hB : 0 ≤ B) {l : List α} (h : ∀ x ∈ l, -B ≤ g x ∧ g x ≤ B) : -(B * l.length) ≤ sumI (l.map g) ∧ sumI (l.map g) ≤ B * l.length := by
  induction l with
  | nil => simp [sumI]
  | cons y ys ih =>
    have h1 := h y (by simp)
    have h2 := ih fun x hx => h x (by simp [hx])
    simp only [List.map_cons, sumI, List.length_cons]
    rw [show ((ys.length + 1 : Nat) : Int) = (ys.length : Int) + 1 by omega, Int.mul_add]
    omega
end Go.Proofs.YtfakhapljjbbnaaDoor
