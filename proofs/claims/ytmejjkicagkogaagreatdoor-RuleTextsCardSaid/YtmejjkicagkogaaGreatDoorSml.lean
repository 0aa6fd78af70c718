/- How lines and worths are drawn. -/
import Derived.Test.YtmejjkicagkogaaGreatDoorSmk
namespace Go.Proofs.YtmejjkicagkogaaGreatDoor
open Go.RowKit

theorem heap_gb {w w' : World} {B g : Nat} {o : Obj} (h : w.heap[g]? = some o) (hg : w.grownBy w' (some B)) (hne : g ≠ B) : w'.heap[g]? = some o :=
  (hg.block g (lt_of_heap h) (by intro e; cases e; exact hne rfl)).trans h
theorem heap_al {w : World} {g : Nat} {o : Obj} (h : w.heap[g]? = some o) (o' : Obj) : (w.alloc o').heap[g]? = some o := (heap_alloc_old w o' (lt_of_heap h)).trans h

theorem heap_far {w : World} {X Y o : Nat} {u : Value} {b : Obj} (h : w.heap[X]? = some b) (hne : X ≠ Y) : (w.setCell ⟨Y, o, none⟩ u).heap[X]? = some b := by
  rw [← h]
  exact Below.heap_setCell w _ u X (by simpa using hne)
/-- Stores into one block, one after the other. -/
theorem GS (w : World) (a b c : Value) {X : Nat} : w.grownBy (((w.setCell ⟨X, 0, none⟩ a).setCell ⟨X, 1, none⟩ b).setCell ⟨X, 2, none⟩ c) (some X) := gb_trans (gb_setCell _ _ _ _) (gb_trans (gb_setCell _ _ _ _) (gb_setCell _ _ _ _))
theorem GS2 (w : World) (X : Nat) (a b : Value) : w.grownBy ((w.setCell ⟨X, 0, none⟩ a).setCell ⟨X, 1, none⟩ b) (some X) := gb_trans (gb_setCell _ _ _ _) (gb_setCell _ _ _ _)
/-- The line drawn. -/
def ALn (lo : Nat) (w : World) (v : Value) : Prop := ∃ l x, v = lnV l x ∧ Tds w lo x l.stats ∧ SmallL l
end Go.Proofs.YtmejjkicagkogaaGreatDoor
