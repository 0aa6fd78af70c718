/- The library's kit of sorted rows (HoldsK, sortWorldK) and this claim's rows (RowsAt): a bridge. -/
import Derived.Test.YtddnnjblpgfjeaaGreatDoorMgaa
import Derived.Shelf.GgSortFunc.InsertionK
namespace Go.Proofs.YtddnnjblpgfjeaaGreatDoor
open Go.RowKit
variable {α : Type} [Inhabited α]

theorem rowsAt_holdsK {w : World} {T g off sz : Nat} {enc : α → List Value} {d : Array α} (h : RowsAt w T g off sz (d.toList.map enc)) (hk : ∀ x, (enc x).length = sz) : Go.Sort.HoldsK enc sz w g off d := by
 have hfree := h.free
 obtain ⟨_, cur, h2, _, h4⟩ := h
 intro j hj
 have hj' : j < d.size * sz := by simpa using hj
 refine ⟨?_, hfree _⟩
 have k0 : 0 < sz := by
  rcases Nat.eq_zero_or_pos sz with e | e
  ·subst e; simp at hj'
  ·exact e
 have hi : j / sz < d.size := Nat.div_lt_of_lt_mul (by rwa [Nat.mul_comm] at hj')
 have hm : j % sz < sz := Nat.mod_lt _ k0
 have he : j / sz * sz + j % sz = j := Nat.div_add_mod' j sz
 have hlen := hk d[j / sz]
 have := h4 (j / sz) (j % sz) (enc d[j / sz])[j % sz] (by simp [hi, hlen, hm])
 rw [show off + j / sz * sz + j % sz = off + j by omega] at this
 rw [Go.Sort.get_flatK _ _ _ _ hj']
 unfold World.cell?
 simp only [h2]
 rw [this]
 simp [hi, hlen, hm]
theorem heap_sortK {w : World} {g off sz n : Nat} {enc : α → List Value} {d' : Array α} {os : Array Obj} {cur : Array Value} {T : Nat} {fr : Nat × Nat} (h : w.heap[g]? = some (.cells cur T fr)) :
  (Go.Proofs.sortWorldK enc sz w g off n d' os).heap[g]? = some (.cells (Go.Sort.putCells id off (Go.Sort.flatK enc sz d') cur) T fr) := by
 unfold Go.Proofs.sortWorldK Go.Sort.putRowK Go.Sort.putRow Go.Sort.mapBlock
 have hl := lt_of_heap h
 rw [Go.Sort.heap_grow_old _ _ (by simpa using hl)]
 simp only [Go.Sort.ahead, Array.getElem?_modify, if_true, h]
 rfl
theorem gb_sortK (w : World) (g off sz n : Nat) (enc : α → List Value) (d' : Array α) (os : Array Obj) : w.grownBy (Go.Proofs.sortWorldK enc sz w g off n d' os) (some g) := by
 refine ⟨rfl, rfl, rfl, ?_, fun k hk hne => ?_⟩
 ·unfold Go.Proofs.sortWorldK Go.Sort.putRowK
  simp [Go.Sort.grow, Go.Sort.ahead]
 ·unfold Go.Proofs.sortWorldK Go.Sort.putRowK Go.Sort.putRow Go.Sort.mapBlock
  rw [Go.Sort.heap_grow_old _ _ (by simpa using hk)]
  simp only [Go.Sort.ahead, Array.getElem?_modify]; rw [if_neg (fun e => hne (by rw [e]))]
theorem rowsAt_sortK {w : World} {T g off sz n : Nat} {enc : α → List Value} {d d' : Array α} {os : Array Obj} (h : RowsAt w T g off sz (d.toList.map enc)) (hk : ∀ x, (enc x).length = sz) (hd : d'.size = d.size) :
  RowsAt (Go.Proofs.sortWorldK enc sz w g off n d' os) T g off sz (d'.toList.map enc) := by
 obtain ⟨_, cur, h2, h3, _⟩ := h
 have h3' : off + d'.size * sz ≤ cur.size := by simpa [hd] using h3
 refine ⟨by simp [hk], _, heap_sortK h2, by simpa [Go.Sort.putCells] using h3', fun i j u hu => ?_⟩
 by_cases hi : i < d'.size
 ·have e0 : (d'.toList.map enc)[i]?.getD [] = enc d'[i] := by simp [hi]
  rw [e0] at hu
  have hj : j < sz := by
   have := (List.getElem?_eq_some_iff.1 hu).1
   rwa [hk] at this
  have hlt : i * sz + j < d'.size * sz := by
   have : (i + 1) * sz ≤ d'.size * sz := Nat.mul_le_mul_right _ hi
   rw [Nat.add_mul, Nat.one_mul] at this
   omega
  have hlt2 : off + i * sz + j < cur.size := by omega
  have k0 : 0 < sz := by omega
  have e1 : (i * sz + j) / sz = i := by
   rw [Nat.mul_comm, Nat.mul_add_div k0, Nat.div_eq_of_lt hj, Nat.add_zero]
  have e2 : (i * sz + j) % sz = j := by
   rw [Nat.mul_comm, Nat.mul_add_mod, Nat.mod_eq_of_lt hj]
  simp only [Go.Sort.putCells, Array.getElem?_mapIdx, Array.getElem?_eq_getElem hlt2, Option.map_some, Go.Sort.size_flatK]; rw [if_pos ⟨by omega, by omega⟩, show off + i * sz + j - off = i * sz + j by omega, Go.Sort.get_flatK _ _ _ _ hlt, e1, e2]
  have hu' := (List.getElem?_eq_some_iff.1 hu)
  obtain ⟨hjl, hju⟩ := hu'; simp [hi, hjl, hju]
 ·have e0 : (d'.toList.map enc)[i]?.getD [] = [] := by simp [hi]
  rw [e0] at hu
  simp at hu
end Go.Proofs.YtddnnjblpgfjeaaGreatDoor
