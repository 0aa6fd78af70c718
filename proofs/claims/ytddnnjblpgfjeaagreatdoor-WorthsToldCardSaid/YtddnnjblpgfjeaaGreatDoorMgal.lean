/- The reference's small parts: when, errs, in, Week, only, Key. -/
import Derived.Test.YtddnnjblpgfjeaaGreatDoorMgai
import Derived.Deep.Cut
import Derived.Test.YtddnnjblpgfjeaaGreatDoorMgak
/- check.Rising and CheckPlayers. -/
namespace Go.Proofs.YtddnnjblpgfjeaaGreatDoor
open Go.RowKit

theorem nums4' (w : World) (T : Nat) (a b c d : Int) : NumsAt (w.alloc (.cells #[.int .i64 a, .int .i64 b, .int .i64 c, .int .i64 d] T)) w.heap.size 0 [a, b, c, d] := by
 intro i x hx
 rw [World.cell?_alloc_at _ _ _ _ rfl]
 match i, hx with
 | 0, hx => simp at hx; subst hx; rfl
 | 1, hx => simp at hx; subst hx; rfl
 | 2, hx => simp at hx; subst hx; rfl
 | 3, hx => simp at hx; subst hx; rfl
end Go.Proofs.YtddnnjblpgfjeaaGreatDoor
namespace Go.Proofs.YtddnnjblpgfjeaaGreatDoor
open Go.RowKit

/-- Does a byte stand in a string? -/
def inB (some : ByteArray) (x : Int) : Bool := decide (0 ≤ Lib.indexByte some.data.toList x.toNat.toUInt8)
def lettersS : ByteArray := ⟨#[97, 98, 99, 100, 101, 102, 103, 104, 105, 106, 107, 108, 109, 110, 111, 112, 113, 114, 115, 116, 117, 118, 119, 120, 121, 122]⟩
def keyS : ByteArray := ⟨#[97, 98, 99, 100, 101, 102, 103, 104, 105, 106, 107, 108, 109, 110, 111, 112, 113, 114, 115, 116, 117, 118, 119, 120, 121, 122, 48, 49, 50, 51, 52, 53, 54, 55, 56, 57, 45, 95]⟩
theorem inB_letters (x : UInt8) : inB lettersS (x.toNat : Int) = smallB (x.toNat : Int) := by
 have h : ∀ x : Fin 256, inB lettersS (x.val : Int) = smallB (x.val : Int) := by decide +kernel
 exact h ⟨x.toNat, x.toNat_lt⟩
end Go.Proofs.YtddnnjblpgfjeaaGreatDoor
