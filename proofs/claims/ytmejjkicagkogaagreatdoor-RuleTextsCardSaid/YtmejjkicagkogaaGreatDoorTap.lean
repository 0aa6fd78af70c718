/- The tape as a law is handed it. -/
import Derived.Test.YtmejjkicagkogaaGreatDoorStream
namespace Go.Proofs.YtmejjkicagkogaaGreatDoor
open Go.RowKit

/-- The tape as the law is handed it. -/
def Tape (w : World) (lv : Value) : Prop := (∃ a c, lv = .slice a 0 c) ∨ ∃ b off len cap, lv = .slice (some ⟨b, off, none⟩) len cap ∧ b < w.heap.size ∧ len ≤ 140737488355328 ∧ ∀ j, j < len → ∃ x : Int, w.cell? ⟨b, off + j, none⟩ = some (.int .i64 x)
theorem Tape.stm {w : World} {lv : Value} (h : Tape w lv) (T : Nat) : Stm (w.alloc (.cells #[lv, .int .i64 0] T)) T w.heap.size 0 := by
  refine ⟨lv, 0, heap_alloc_new w _, Nat.le_refl _, ?_⟩
  rcases h with h | ⟨b, off, len, cap, e, hb, hl, hx⟩
  · exact .inl h
  · exact .inr ⟨b, off, len, cap, e, hb, hl, fun j hj => by obtain ⟨x, hx⟩ := hx j hj; exact ⟨x, below_cell (below_alloc w _) hx⟩⟩
theorem Tape.shape {w : World} {lv : Value} (h : Tape w lv) : ∃ a n c, lv = .slice a n c := by
  rcases h with ⟨a, c, h⟩ | ⟨b, off, len, cap, e, _⟩
  · exact ⟨_, _, _, h⟩
  · exact ⟨_, _, _, e⟩
end Go.Proofs.YtmejjkicagkogaaGreatDoor
