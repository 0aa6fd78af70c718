/- The reference's ListFault and PlayersFault. -/
import Derived.Test.YtmejjkicagkogaaGreatDoorRefb
namespace Go.Proofs.YtmejjkicagkogaaGreatDoor
open Go.RowKit

def lfE (need : Bool) (ks : List ByteArray) : Int := if need && decide (ks.length = 0) then 8 else eachE ks.length 10 (risF ks)
theorem lt_empty {s : ByteArray} (h : keyB s = true) : ltS ⟨#[]⟩ s = true := by
  unfold keyB at h
  simp only [Bool.and_eq_true, decide_eq_true_eq] at h
  unfold ltS
  rw [ByteArray.toList_eq, ByteArray.toList_eq]
  cases hs : s.data.toList with
  | nil =>
    have := h.1.1.1
    have e : s.size = 0 := by
      show s.data.size = 0
      rw [← Array.length_toList, hs]; rfl
    omega
  | cons => rfl
end Go.Proofs.YtmejjkicagkogaaGreatDoor
