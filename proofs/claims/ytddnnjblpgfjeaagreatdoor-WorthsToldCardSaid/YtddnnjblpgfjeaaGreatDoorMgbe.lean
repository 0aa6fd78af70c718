/- slices.Equal at strings. -/
import Derived.Test.YtddnnjblpgfjeaaGreatDoorShelf
import Derived.Test.YtddnnjblpgfjeaaGreatDoorMgak
import Derived.Test.YtddnnjblpgfjeaaGreatDoorMgah
namespace Go.Proofs.YtddnnjblpgfjeaaGreatDoor
open Go.RowKit

/-- slices.Equal on two rows of strings. -/
theorem equal_calls (lo lo' : Nat) (v v' : Value) (ks js : List ByteArray) (w : World) (hv : Strs w lo v ks) (hv' : Strs w lo' v' js) (hk : ks.length ≤ 1000000) (hj : js.length ≤ 1000000) :
  Calls Tryz.prog 18 #[v, v'] w (BoolIs (decide (ks = js)) w) := by
 rcases strs_at hv with ⟨rfl, rfl⟩ | ⟨g, off, cap, rfl, _, _, _, hc⟩
 ·obtain ⟨a, c, rfl⟩ := strs_shape hv'
  refine (Tryz.slices_Equal_string_empty _ _ _ _ _ w (by omega)).mono ?_
  rintro e w' ⟨rfl, rfl⟩; refine ⟨?_, Below.refl _ _⟩; congr 3
  exact propext ⟨fun h => (List.eq_nil_of_length_eq_zero h).symm, fun h => by rw [← h]; rfl⟩
 ·rcases strs_at hv' with ⟨rfl, rfl⟩ | ⟨g', off', cap', rfl, _, _, _, hc'⟩
  ·by_cases h0 : ks.length = 0
   ·have : ks = [] := List.eq_nil_of_length_eq_zero h0
    subst this; refine (Tryz.slices_Equal_string_empty _ _ _ _ _ w (by simp)).mono ?_
    rintro e w' ⟨rfl, rfl⟩; exact ⟨by simp, Below.refl _ _⟩
   ·refine (Tryz.slices_Equal_string_lens _ _ _ _ _ _ w (by simpa using h0)).mono ?_
    rintro e w' ⟨rfl, rfl⟩; refine ⟨?_, Below.refl _ _⟩; have : ¬ ks = [] := fun e => h0 (by rw [e]; rfl)
    simp [this]
  ·have cell : ∀ (xs : List ByteArray) (b o : Nat), (∀ (i : Nat) (k : ByteArray), xs[i]? = some k → w.cell? ⟨b, o + i, none⟩ = some (.string k)) → ∀ j, j < xs.length → w.cell? ⟨b, o + j, none⟩ = some (.string (xs.getD j ByteArray.empty)) := fun xs b o h j hj => by
    rw [h j xs[j] (List.getElem?_eq_getElem hj)]
    simp [List.getD_eq_getElem?_getD, List.getElem?_eq_getElem hj]
   refine (Tryz.slices_Equal_string g off ks.length cap g' off' js.length cap' ks js w (Nat.le_refl _) (Nat.le_refl _) (by omega) (by omega) (cell ks g off hc) (cell js g' off' hc')).mono ?_
   rintro e w' ⟨rfl, q, rfl⟩; exact ⟨by rw [List.take_length, List.take_length], have h := Below.refl w.heap.size w; ⟨h.os, h.tape, h.output, h.size, h.block⟩⟩
end Go.Proofs.YtddnnjblpgfjeaaGreatDoor
