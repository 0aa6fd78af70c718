/- What one more brings, and whom to drop: the reference's ways. -/
import Derived.Test.YtddnnjblpgfjeaaGreatDoorMgap
import Derived.Test.YtddnnjblpgfjeaaGreatDoorMgaw
import Derived.Test.YtddnnjblpgfjeaaGreatDoorMgan
import Derived.Test.YtddnnjblpgfjeaaGreatDoorMgac
import Derived.Test.YtddnnjblpgfjeaaGreatDoorMgax
import Derived.Test.YtddnnjblpgfjeaaGreatDoorMgak
/- Who is fielded: the reference's way. -/
namespace Go.Proofs.YtddnnjblpgfjeaaGreatDoor
open Go.RowKit

def FitA (x : AsD) : Prop := -1000000 ≤ x.value ∧ x.value ≤ 1000000
theorem sumV_bound : ∀ (l : List AsD), (∀ x ∈ l, FitA x) → -(1000000 * (l.length : Int)) ≤ sumV l ∧ sumV l ≤ 1000000 * (l.length : Int)
 | [], _ => by unfold sumV; simp
 | a :: l, h => by
  have ih := sumV_bound l fun x hx => h x (by simp [hx])
  have ha := h a (by simp)
  unfold FitA at ha
  have e : sumV (a :: l) = a.value + sumV l := by unfold sumV; simp
  rw [e, List.length_cons]; push_cast
  omega
theorem sumV_one (l : List AsD) (x : AsD) : sumV (l ++ [x]) = sumV l + x.value := by rw [sumV_append]; unfold sumV; simp
theorem mem_ofR {xs : List AsD} {k : ByteArray} {x : AsD} (h : x ∈ ofR xs k) : x ∈ xs := by
 unfold ofR at h
 exact (List.mem_filter.1 ((rank_perm _).mem_iff.1 h)).1
theorem ofR_len (xs : List AsD) (k : ByteArray) : (ofR xs k).length ≤ xs.length := by
 unfold ofR
 rw [(rank_perm _).length_eq]
 exact List.length_filter_le _ _
def namesA (l : List AsD) : List ByteArray := l.map AsD.player
end Go.Proofs.YtddnnjblpgfjeaaGreatDoor
namespace Go.Proofs.YtddnnjblpgfjeaaGreatDoor
open Go.RowKit

theorem ass_one (w : World) (x : AsD) : Ass (w.alloc (.cells #[.string x.player, .string x.pos, .int .i64 x.value] 78)) w.heap.size (.slice (some ⟨w.heap.size, 0, none⟩) 1 1) [x] := by
 refine ⟨by simp, by simp [asRow], .inr ⟨w.heap.size, 0, 1, _, (0, 0), by simp, ⟨Nat.le_refl _, by simp⟩, heap_alloc_new w _, fun i j u hu => ?_⟩⟩
 match i, hu with
 | 0, hu =>
  have hu' : (asRow x)[j]? = some u := by simpa using hu
  match j, hu' with
  | 0, h => simpa [asRow] using h
  | 1, h => simpa [asRow] using h
  | 2, h => simpa [asRow] using h
 | i + 1, hu => simp at hu
theorem strs_one (w : World) (k : ByteArray) : Strs (w.alloc (.cells #[.string k] 9)) w.heap.size (.slice (some ⟨w.heap.size, 0, none⟩) 1 1) [k] := strs_new w [k] (by simp)
end Go.Proofs.YtddnnjblpgfjeaaGreatDoor
