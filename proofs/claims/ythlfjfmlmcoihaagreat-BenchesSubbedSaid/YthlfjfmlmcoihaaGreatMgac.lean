/- More plain facts on worlds. -/
import Derived.Test.YthlfjfmlmcoihaaGreatMgaa
/- Rows of structs that hold strings in a slice of their own (slots, scorers): what stays as the world goes on. -/
namespace Go.Proofs.YthlfjfmlmcoihaaGreat
open Go.RowKit

section
variable {α : Type} (row : α → Value → List Value) (pos : α → List ByteArray)
def nRows (xs : List α) (pvs : List Value) : List (List Value) := List.zipWith row xs pvs
/-- A slice of such structs. -/
def NRows (w : World) (T lo sz : Nat) (v : Value) (xs : List α) : Prop :=
  ∃ pvs : List Value, pvs.length = xs.length ∧ Rows w T lo sz v (nRows row xs pvs) ∧ ∀ (i : Nat) (x : Value) (a : α), pvs[i]? = some x → xs[i]? = some a → Strs w lo x (pos a)
/-- A slice of such structs that the call made itself. -/
def NOwn (w : World) (T base sz : Nat) (v : Value) (xs : List α) : Prop :=
  ∃ pvs : List Value, pvs.length = xs.length ∧ w.ownsRow base T sz v xs.length (nRows row xs pvs).flatten ∧ ∀ (i : Nat) (x : Value) (a : α), pvs[i]? = some x → xs[i]? = some a → Strs w base x (pos a)
end
theorem nRows_length {α : Type} {row : α → Value → List Value} {xs : List α} {pvs : List Value} (h : pvs.length = xs.length) : (nRows row xs pvs).length = xs.length := by
  unfold nRows; rw [List.length_zipWith, h]; exact Nat.min_self _
theorem nRows_each {α : Type} {row : α → Value → List Value} {sz : Nat} (hsz : ∀ a x, (row a x).length = sz) : ∀ (xs : List α) (pvs : List Value), ∀ r ∈ nRows row xs pvs, r.length = sz := by
  intro xs pvs r hr
  obtain ⟨i, hi⟩ := List.getElem?_of_mem hr
  unfold nRows at hi
  rw [List.getElem?_zipWith] at hi
  split at hi <;> simp at hi
  subst hi; exact hsz _ _
theorem nRows_get {α : Type} {row : α → Value → List Value} {xs : List α} {pvs : List Value} {i : Nat} {a : α} {x : Value} (h1 : xs[i]? = some a) (h2 : pvs[i]? = some x) : (nRows row xs pvs)[i]? = some (row a x) := by
  unfold nRows
  rw [List.getElem?_zipWith, h1, h2]
theorem nRows_snoc {α : Type} {row : α → Value → List Value} {xs : List α} {pvs : List Value} (h : pvs.length = xs.length) (a : α) (x : Value) : nRows row (xs ++ [a]) (pvs ++ [x]) = nRows row xs pvs ++ [row a x] := by
  unfold nRows
  rw [List.zipWith_append h.symm]
  rfl
theorem NOwn.rows {α : Type} {row : α → Value → List Value} {pos : α → List ByteArray} {w : World} {T base sz : Nat} {v : Value} {xs : List α} (h : NOwn row pos w T base sz v xs) (hsz : ∀ a x, (row a x).length = sz) (hn : xs.length ≤ 1000000) : NRows row pos w T base sz v xs := by
  obtain ⟨pvs, h1, h2, h3⟩ := h
  exact ⟨pvs, h1, Rows.of_owns (by rw [nRows_length h1]; exact h2) (by rw [nRows_length h1]; exact hn) (nRows_each hsz xs pvs), h3⟩
theorem NOwn.nil {α : Type} (row : α → Value → List Value) (pos : α → List ByteArray) (w : World) (T base sz : Nat) : NOwn row pos w T base sz (.slice none 0 0) [] := ⟨[], rfl, World.ownsRow_nil _ _ _ _, by simp⟩
theorem NOwn.below {α : Type} {row : α → Value → List Value} {pos : α → List ByteArray} {w w' : World} {T base sz : Nat} {v : Value} {xs : List α} (h : NOwn row pos w T base sz v xs) (hb : Below w.heap.size w w') : NOwn row pos w' T base sz v xs := by
  obtain ⟨pvs, a, b, c⟩ := h
  exact ⟨pvs, a, b.kept (gb_below hb none) (by cases hv : v.ownBlock <;> simp), fun i x p hx hp => (c i x p hx hp).below hb⟩
theorem NOwn.alloc {α : Type} {row : α → Value → List Value} {pos : α → List ByteArray} {w : World} {T base sz : Nat} {v : Value} {xs : List α} (h : NOwn row pos w T base sz v xs) (o : Obj) : NOwn row pos (w.alloc o) T base sz v xs := h.below (below_alloc w o)
theorem NOwn.mono {α : Type} {row : α → Value → List Value} {pos : α → List ByteArray} {w : World} {T base base' sz : Nat} {v : Value} {xs : List α} (h : NOwn row pos w T base sz v xs) (hb : base' ≤ base) : NOwn row pos w T base' sz v xs := by
  obtain ⟨pvs, a, b, c⟩ := h
  refine ⟨pvs, a, ⟨b.1, ?_⟩, fun i x p hx hp => (c i x p hx hp).mono hb⟩
  rcases b.2 with h | ⟨g, cap, cur, e, hg, rest⟩
  · exact .inl h
  · exact .inr ⟨g, cap, cur, e, Nat.le_trans hb hg, rest⟩
/-- It stays where an older block changes. -/
theorem NOwn.keep {α : Type} {row : α → Value → List Value} {pos : α → List ByteArray} {w w' : World} {T base sz B : Nat} {v : Value} {xs : List α} (h : NOwn row pos w T base sz v xs) (hg : w.grownBy w' (some B)) (hB : B < base) : NOwn row pos w' T base sz v xs := by
  obtain ⟨pvs, a, b, c⟩ := h
  exact ⟨pvs, a, b.kept hg (.inr fun e => by have := (own_block b B e).1; omega), fun i x p hx hp => (c i x p hx hp).other hg hB⟩
/-- One more, appended. -/
theorem NOwn.snoc {α : Type} {row : α → Value → List Value} {pos : α → List ByteArray} {w w' : World} {T base sz : Nat} {v v' x : Value} {xs : List α} {pvs : List Value} {a : α} (hl : pvs.length = xs.length) (hc : ∀ (i : Nat) (x : Value) (a : α), pvs[i]? = some x → xs[i]? = some a → Strs w base x (pos a))
    (hx : Strs w base x (pos a)) (hT : T ≠ 9) (hown : w.ownsRow base T sz v xs.length (nRows row xs pvs).flatten) (hown' : w'.ownsRow base T sz v' (xs.length + 1) ((nRows row xs pvs).flatten ++ row a x)) (hg : w.grownBy w' v.ownBlock) : NOwn row pos w' T base sz v' (xs ++ [a]) := by
  refine ⟨pvs ++ [x], by simp [hl], ?_, fun i y p hy hp => ?_⟩
  · rw [nRows_snoc hl, List.flatten_append, List.length_append]
    simpa using hown'
  · have key : Strs w base y (pos p) := by
      by_cases hi : i < xs.length
      · rw [List.getElem?_append_left (by omega)] at hy
        rw [List.getElem?_append_left hi] at hp
        exact hc i y p hy hp
      · have hi2 : i = xs.length := by have := (List.getElem?_eq_some_iff.1 hp).1; simp at this; omega
        subst hi2
        rw [List.getElem?_append_right (by omega), hl] at hy
        rw [List.getElem?_append_right (by omega)] at hp
        simp at hy hp
        subst hy hp
        exact hx
    exact key.row hg fun r hr => by
      obtain ⟨_, cur, h⟩ := own_block hown r hr
      exact ⟨cur, T, _, h, hT⟩
theorem NRows.below {α : Type} {row : α → Value → List Value} {pos : α → List ByteArray} {w w' : World} {T lo sz : Nat} {v : Value} {xs : List α} (h : NRows row pos w T lo sz v xs) (hb : Below w.heap.size w w') : NRows row pos w' T lo sz v xs := by
  obtain ⟨pvs, a, b, c⟩ := h
  exact ⟨pvs, a, b.below hb, fun i x p hx hp => (c i x p hx hp).below hb⟩
theorem NRows.other {α : Type} {row : α → Value → List Value} {pos : α → List ByteArray} {w w' : World} {T lo sz B : Nat} {v : Value} {xs : List α} (h : NRows row pos w T lo sz v xs) (hg : w.grownBy w' (some B)) (hB : B < lo) : NRows row pos w' T lo sz v xs := by
  obtain ⟨pvs, a, b, c⟩ := h
  exact ⟨pvs, a, b.other hg hB, fun i x p hx hp => (c i x p hx hp).other hg hB⟩
theorem NRows.mono {α : Type} {row : α → Value → List Value} {pos : α → List ByteArray} {w : World} {T lo lo' sz : Nat} {v : Value} {xs : List α} (h : NRows row pos w T lo sz v xs) (hl : lo' ≤ lo) : NRows row pos w T lo' sz v xs := by
  obtain ⟨pvs, a, b, c⟩ := h
  exact ⟨pvs, a, b.mono hl, fun i x p hx hp => (c i x p hx hp).mono hl⟩
/-- What stands in memory. -/
theorem NRows.at {α : Type} {row : α → Value → List Value} {pos : α → List ByteArray} {w : World} {T lo sz : Nat} {v : Value} {xs : List α} (h : NRows row pos w T lo sz v xs) :
    (v = .slice none 0 0 ∧ xs = []) ∨ ∃ g off cap, v = .slice (some ⟨g, off, none⟩) xs.length cap ∧ lo ≤ g ∧ g < w.heap.size ∧ xs.length ≤ 1000000 ∧
      ∀ (i : Nat) (a : α), xs[i]? = some a → ∃ x, (∀ (j : Nat) (u : Value), (row a x)[j]? = some u → w.cell? ⟨g, off + i * sz + j, none⟩ = some u) ∧ Strs w lo x (pos a) := by
  obtain ⟨pvs, hl, hr, hp⟩ := h
  have e := nRows_length (row := row) hl
  rcases rows_at hr with ⟨e1, e2⟩ | ⟨g, off, cap, e1, e2, e3, hc⟩
  · refine .inl ⟨e1, ?_⟩
    rw [e2] at e; exact List.eq_nil_of_length_eq_zero e.symm
  · refine .inr ⟨g, off, cap, by rw [e] at e1; exact e1, e2, e3, by have := hr.small; omega, fun i a ha => ?_⟩
    have hi : i < pvs.length := by have := (List.getElem?_eq_some_iff.1 ha).1; omega
    refine ⟨pvs[i], fun j u hu => hc i j u ?_, hp i _ a (List.getElem?_eq_getElem hi) ha⟩
    rw [nRows_get ha (List.getElem?_eq_getElem hi)]
    exact hu
theorem NRows.shape {α : Type} {row : α → Value → List Value} {pos : α → List ByteArray} {w : World} {T lo sz : Nat} {v : Value} {xs : List α} (h : NRows row pos w T lo sz v xs) : ∃ a c, v = .slice a xs.length c := by
  rcases h.at with ⟨rfl, rfl⟩ | ⟨g, off, cap, rfl, _⟩
  · exact ⟨none, 0, rfl⟩
  · exact ⟨_, _, rfl⟩
end Go.Proofs.YthlfjfmlmcoihaaGreat
namespace Go.Proofs.YthlfjfmlmcoihaaGreat
open Go.RowKit

theorem RowsAt.heap {w : World} {T g off sz : Nat} {rows : List (List Value)} (h : RowsAt w T g off sz rows) : ∃ cur, w.heap[g]? = some (.cells cur T (0, 0)) := by
  obtain ⟨_, cur, h2, _⟩ := h; exact ⟨cur, h2⟩

/-- clear on a tail of a slice of rows: the block's cells ahead of it stay. -/
theorem run_clear_rows {P : Program} {w : World} {T t ty g off sz i n cap : Nat} {z : Value} {rows : List (List Value)} (ht : P.underlying t = some (.slice T)) (hv : ∀ w, (zeroValue T).run P w = .ok z w) (hz : z.cells.size = sz) (h1 : ∀ u ∈ z.cells.toList, u.oneCell' = true)
    (h : RowsAt w T g off sz rows) (hi : i + n = rows.length) (hsz : 0 < sz) :
    ∃ w', (Builtin.clear_ #[t] ty #[.slice (some ⟨g, off + i * sz, none⟩) n cap]).run P w = .ok (.tuple #[]) w' ∧ RowsAt w' T g off sz (rows.take i) ∧ w.grownBy w' (some g) := by
  obtain ⟨m, rfl⟩ | rfl : (∃ m, n = m + 1) ∨ n = 0 := by
    cases n with
    | zero => exact .inr rfl
    | succ m => exact .inl ⟨m, rfl⟩
  · obtain ⟨hr1, cur, h2, h3, h4⟩ := h
    have hone : ∀ u ∈ (Builtin.zeroCells z.cells (m + 1)).toList, u.oneCell' = true := by
      intro u hu
      simp only [Builtin.zeroCells, Array.toList_map, List.mem_map] at hu
      obtain ⟨k, _, rfl⟩ := hu
      have hk : k % z.cells.size < z.cells.size := Nat.mod_lt _ (by omega)
      rw [getElem!_pos z.cells _ hk]
      exact h1 _ (Array.getElem_mem_toList hk)
    have hzs : (Builtin.zeroCells z.cells (m + 1)).toList.length = (m + 1) * sz := by simp [Builtin.zeroCells, hz]
    generalize hZ : (Builtin.zeroCells z.cells (m + 1)).toList = Z at hone hzs
    have hfit : off + i * sz + (m + 1) * sz ≤ cur.size := by
      have : rows.length * sz = i * sz + (m + 1) * sz := by rw [← hi, Nat.add_mul]
      omega
    have hst := run_storeCells_at P g (off + i * sz) T Z 0 cur w h2 (by rw [hzs]; omega) hone
    simp only [Nat.add_zero] at hst
    refine ⟨w.setRow g (cur.toList.take (off + i * sz) ++ Z ++ cur.toList.drop (off + i * sz + Z.length)).toArray, by simp [Builtin.clear_, run_underlying ht, hv, hZ, hst], ⟨fun r hr => hr1 r (List.mem_of_mem_take hr), _, setRow_heap w g cur _ T _ h2, ?_, fun a b u hu => ?_⟩, ⟨rfl, rfl, rfl, by simp [World.setRow], fun k _ hk => setRow_other w g k _ fun e => hk (by rw [e])⟩⟩
    · have h5 : (rows.take i).length ≤ rows.length := List.length_take_le' i rows
      have := Nat.mul_le_mul_right sz h5
      refine Nat.le_trans (show off + (rows.take i).length * sz ≤ cur.size by omega) (Nat.le_of_eq ?_)
      simp only [List.size_toArray, List.length_append, List.length_take, List.length_drop, Array.length_toList]
      omega
    · rw [List.getElem?_take] at hu
      split at hu
      · rename_i hai
        have h6 := h4 a b u hu
        have hb : b < sz := by
          cases hr : rows[a]? with
          | none => rw [hr] at hu; simp at hu
          | some r =>
            rw [hr] at hu
            have := hr1 r (List.mem_of_getElem? hr)
            have := (List.getElem?_eq_some_iff.1 hu).1
            simp at this
            omega
        have hlt : off + a * sz + b < off + i * sz := by
          have := Nat.mul_le_mul_right sz (show a + 1 ≤ i by omega)
          rw [Nat.add_mul] at this; omega
        rw [List.getElem?_toArray, List.append_assoc, List.getElem?_append_left (by simp; omega), List.getElem?_take, if_pos hlt]
        simpa using h6
      · simp at hu
  · refine ⟨w, by simp [Builtin.clear_, run_underlying ht], ?_, gb_refl _ _⟩
    have := h.take i
    exact this
/-- A whole row of three is written. -/
theorem rows_set3 {w : World} {T g off i : Nat} {rows : List (List Value)} {row : List Value} (h : RowsAt w T g off 3 rows) (hi : rows[i]? = some row) (a b c : Value) :
    RowsAt (((w.setCell ⟨g, off + i * 3, none⟩ a).setCell ⟨g, off + i * 3 + 1, none⟩ b).setCell ⟨g, off + i * 3 + 2, none⟩ c) T g off 3 (rows.set i [a, b, c]) := by
  have hlt : i < rows.length := (List.getElem?_eq_some_iff.1 hi).1
  have hl : row.length = 3 := h.1 row (List.mem_of_getElem? hi)
  match row, hl with
  | [x, y, z], _ =>
    have r0 := h.set hi (show 0 < 3 by omega) a
    have r1 := r0.set (List.getElem?_set_self hlt) (show 1 < 3 by omega) b
    rw [List.set_set] at r1
    have r2 := r1.set (List.getElem?_set_self hlt) (show 2 < 3 by omega) c
    rw [List.set_set] at r2
    exact r2
end Go.Proofs.YthlfjfmlmcoihaaGreat
