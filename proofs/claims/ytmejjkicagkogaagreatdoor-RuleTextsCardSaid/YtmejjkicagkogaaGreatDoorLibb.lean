/- More plain facts on worlds. -/
import Derived.Test.YtmejjkicagkogaaGreatDoorLib
namespace Go.Proofs.YtmejjkicagkogaaGreatDoor
open Go.RowKit

theorem RowsAt.heap {w : World} {T g off sz : Nat} {rows : List (List Value)} (h : RowsAt w T g off sz rows) : ∃ cur, w.heap[g]? = some (.cells cur T (0, 0)) := by
  obtain ⟨_, cur, h2, _⟩ := h; exact ⟨cur, h2⟩

/-- clear on a tail of a slice of rows: the block's cells ahead of it stay. -/
theorem run_clear_rows {P : Program} {w : World} {T t ty g off sz i n cap : Nat} {z : Value} {rows : List (List Value)} (ht : P.underlying t = some (.slice T)) (hv : ∀ w, (zeroValue T).run P w = .ok z w) (hz : z.cells.size = sz) (h1 : ∀ u ∈ z.cells.toList, u.oneCell' = true)
    (h : RowsAt w T g off sz rows) (hi : i + n = rows.length) (hsz : 0 < sz) :
    ∃ w', (Builtin.clear_ #[t] ty #[.slice (some ⟨g, off + i * sz, none⟩) n cap]).run P w = .ok (.tuple #[]) w' ∧ RowsAt w' T g off sz (rows.take i) ∧ w.grownBy w' (some g) := by
  obtain ⟨m, rfl⟩ | rfl : (∃ m, n = m + 1) ∨ n = 0 := by
    cases n with
    | zero => exact .inr rfl
    | succ m => exact .inl ⟨m, rfl⟩
  · obtain ⟨hr1, cur, h2, h3, h4⟩ := h
    have hone : ∀ u ∈ (Builtin.zeroCells z.cells (m + 1)).toList, u.oneCell' = true := by
      intro u hu
      simp only [Builtin.zeroCells, Array.toList_map, List.mem_map] at hu
      obtain ⟨k, _, rfl⟩ := hu
      have hk : k % z.cells.size < z.cells.size := Nat.mod_lt _ (by omega)
      rw [getElem!_pos z.cells _ hk]
      exact h1 _ (Array.getElem_mem_toList hk)
    have hzs : (Builtin.zeroCells z.cells (m + 1)).toList.length = (m + 1) * sz := by simp [Builtin.zeroCells, hz]
    generalize hZ : (Builtin.zeroCells z.cells (m + 1)).toList = Z at hone hzs
    have hfit : off + i * sz + (m + 1) * sz ≤ cur.size := by
      have : rows.length * sz = i * sz + (m + 1) * sz := by rw [← hi, Nat.add_mul]
      omega
    have hst := run_storeCells_at P g (off + i * sz) T Z 0 cur w h2 (by rw [hzs]; omega) hone
    simp only [Nat.add_zero] at hst
    refine ⟨w.setRow g (cur.toList.take (off + i * sz) ++ Z ++ cur.toList.drop (off + i * sz + Z.length)).toArray, by simp [Builtin.clear_, run_underlying ht, hv, hZ, hst], ⟨fun r hr => hr1 r (List.mem_of_mem_take hr), _, setRow_heap w g cur _ T _ h2, ?_, fun a b u hu => ?_⟩, ⟨rfl, rfl, rfl, by simp [World.setRow], fun k _ hk => setRow_other w g k _ fun e => hk (by rw [e])⟩⟩
    · have h5 : (rows.take i).length ≤ rows.length := List.length_take_le' i rows
      have := Nat.mul_le_mul_right sz h5
      refine Nat.le_trans (show off + (rows.take i).length * sz ≤ cur.size by omega) (Nat.le_of_eq ?_)
      simp only [List.size_toArray, List.length_append, List.length_take, List.length_drop, Array.length_toList]
      omega
    · rw [List.getElem?_take] at hu
      split at hu
      · rename_i hai
        have h6 := h4 a b u hu
        have hb : b < sz := by
          cases hr : rows[a]? with
          | none => rw [hr] at hu; simp at hu
          | some r =>
            rw [hr] at hu
            have := hr1 r (List.mem_of_getElem? hr)
            have := (List.getElem?_eq_some_iff.1 hu).1
            simp at this
            omega
        have hlt : off + a * sz + b < off + i * sz := by
          have := Nat.mul_le_mul_right sz (show a + 1 ≤ i by omega)
          rw [Nat.add_mul] at this; omega
        rw [List.getElem?_toArray, List.append_assoc, List.getElem?_append_left (by simp; omega), List.getElem?_take, if_pos hlt]
        simpa using h6
      · simp at hu
  · refine ⟨w, by simp [Builtin.clear_, run_underlying ht], ?_, gb_refl _ _⟩
    have := h.take i
    exact this
/-- A whole row of three is written. -/
theorem rows_set3 {w : World} {T g off i : Nat} {rows : List (List Value)} {row : List Value} (h : RowsAt w T g off 3 rows) (hi : rows[i]? = some row) (a b c : Value) :
    RowsAt (((w.setCell ⟨g, off + i * 3, none⟩ a).setCell ⟨g, off + i * 3 + 1, none⟩ b).setCell ⟨g, off + i * 3 + 2, none⟩ c) T g off 3 (rows.set i [a, b, c]) := by
  have hlt : i < rows.length := (List.getElem?_eq_some_iff.1 hi).1
  have hl : row.length = 3 := h.1 row (List.mem_of_getElem? hi)
  match row, hl with
  | [x, y, z], _ =>
    have r0 := h.set hi (show 0 < 3 by omega) a
    have r1 := r0.set (List.getElem?_set_self hlt) (show 1 < 3 by omega) b
    rw [List.set_set] at r1
    have r2 := r1.set (List.getElem?_set_self hlt) (show 2 < 3 by omega) c
    rw [List.set_set] at r2
    exact r2
end Go.Proofs.YtmejjkicagkogaaGreatDoor
