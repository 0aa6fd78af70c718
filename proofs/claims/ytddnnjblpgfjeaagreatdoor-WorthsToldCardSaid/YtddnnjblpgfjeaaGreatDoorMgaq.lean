/- A fraction written, on both sides. -/
import Derived.Test.YtddnnjblpgfjeaaGreatDoorMgam
import Derived.Test.YtddnnjblpgfjeaaGreatDoorMgal
import Derived.Test.YtddnnjblpgfjeaaGreatDoorMgac
import Derived.Test.YtddnnjblpgfjeaaGreatDoorShelf
import Derived.Sort.Grow
import Derived.Lib.ItoaLen
namespace Go.Proofs.YtddnnjblpgfjeaaGreatDoor
open Go.RowKit Go.Shelf Go.Sort

/-- The table that the library's writer of numbers reads, in every world that holds what this one holds. -/
def DigB (w : World) : Prop := ∀ w', Below w.heap.size w w' → Lib.TabIs Tryz.prog w' "internal/strconv.uint64pow10" .u64 Lib.pow10Tab
theorem DigB.below {w w' : World} (h : DigB w) (hb : Below w.heap.size w w') : DigB w' := fun w2 h2 => h w2 (below_step hb h2)
def itoaS (n : Int) : ByteArray := ⟨(Lib.itoa n).toArray⟩
theorem itoaS_size {n : Int} (h : Int64 n) : (itoaS n).size ≤ 21 := by
 have := Lib.itoa_length_le n h.1 h.2
 simpa [itoaS, ByteArray.size] using this
theorem below_grown_it (w : World) (k : Nat) (os : Array Obj) : Below w.heap.size w (grow (w.drewN k) os) :=
 ⟨rfl, rfl, rfl, by first | (simp [grow]; done) | (simp [grow]; omega), fun i hi => by
  show ((w.drewN k).heap ++ os)[i]? = _
  rw [Array.getElem?_append_left (by show i < w.heap.size; omega)]
  rfl⟩
theorem itoa_calls (n : Int) (w : World) (hn : Int64 n) (hD : Lib.TabIs Tryz.prog w "internal/strconv.uint64pow10" .u64 Lib.pow10Tab) : Calls Tryz.prog 50 #[.int .i64 n] w fun e w' => e = .returned (.string (itoaS n)) ∧ Below w.heap.size w w' := by
 refine (Tryz.strconv_Itoa n hn.1 hn.2 w hD).mono ?_
 rintro e w' ⟨rfl, k, os, rfl⟩
 exact ⟨rfl, below_grown_it w k os⟩
end Go.Proofs.YtddnnjblpgfjeaaGreatDoor
