/- Plain facts on sorted rows of strings, each once. -/
import Derived.Test.YthmdhokmgicnmaaGreatDoorFxm
namespace Go.Proofs.YthmdhokmgicnmaaGreatDoor
open Go.RowKit Go.Sort

theorem mem_compactUpTo (d : Array (List UInt8)) (x : List UInt8) : ∀ m, x ∈ Lib.compactUpTo d m ↔ ∃ j, j < m ∧ d[j]! = x
  | 0 => by simp [Lib.compactUpTo]
  | m + 1 => by
    rw [Lib.compactUpTo_succ, List.mem_append, mem_compactUpTo d x m]
    constructor
    · rintro (⟨j, hj, e⟩ | h)
      · exact ⟨j, by omega, e⟩
      · split at h
        · exact ⟨m, by omega, (List.mem_singleton.1 h).symm⟩
        · cases h
    · rintro ⟨j, hj, e⟩
      rcases Nat.lt_succ_iff_lt_or_eq.1 hj with h | rfl
      · exact .inl ⟨j, h, e⟩
      · cases hk : Lib.keeps d j
        · left
          have h0 : 0 < j ∧ d[j]! = d[j - 1]! := by
            simp only [Lib.keeps, decide_eq_false_iff_not, not_or, Decidable.not_not, ne_eq] at hk
            exact ⟨by omega, hk.2⟩
          exact ⟨j - 1, by omega, by rw [← h0.2]; exact e⟩
        · right; simp [e]
theorem mem_compact (zs : List (List UInt8)) (x : List UInt8) : x ∈ Lib.compact zs ↔ x ∈ zs := by
  unfold Lib.compact
  rw [mem_compactUpTo]
  constructor
  · rintro ⟨j, hj, rfl⟩
    simp [hj]
  · intro h
    obtain ⟨j, hj, e⟩ := List.mem_iff_getElem.1 h
    exact ⟨j, hj, by simp [hj, e]⟩
theorem mem_sortL {ks : List ByteArray} {k : ByteArray} : k ∈ sortL ks ↔ k ∈ ks := by
  have h : ∀ (l : List (List UInt8)), k ∈ (l.mergeSort fun x y => decide (x ≤ y)).map ofL ↔ k ∈ l.map ofL := fun l => by
    simp [List.mem_map, List.mem_mergeSort]
  unfold sortL
  rw [h, map_ofL_toL]
theorem mem_compactL {ks : List ByteArray} {k : ByteArray} : k ∈ compactL ks ↔ k ∈ ks := by
  have h : ∀ (l : List (List UInt8)), k ∈ (Lib.compact l).map ofL ↔ k ∈ l.map ofL := fun l => by
    simp [List.mem_map, mem_compact]
  unfold compactL
  rw [h, map_ofL_toL]
theorem mem_cs {ks : List ByteArray} {k : ByteArray} (h : k ∈ compactL (sortL ks)) : k ∈ ks := mem_sortL.1 (mem_compactL.1 h)

theorem lt_of_le_ne {a b : List UInt8} (h : a ≤ b) (hn : a ≠ b) : a < b := by
  rcases List.le_iff_lt_or_eq.1 h with h | h
  · exact h
  · exact absurd h hn
theorem compactUpTo_strict (d : Array (List UInt8)) (hs : ∀ j, j + 1 < d.size → d[j]! ≤ d[j + 1]!) : ∀ m, m ≤ d.size → (Lib.compactUpTo d m).Pairwise (· < ·) ∧ ∀ x ∈ Lib.compactUpTo d m, x ≤ d[m - 1]!
  | 0, _ => by simp [Lib.compactUpTo]
  | m + 1, hm => by
    obtain ⟨h1, h2⟩ := compactUpTo_strict d hs m (by omega)
    rw [Lib.compactUpTo_succ]
    have hle : ∀ x ∈ Lib.compactUpTo d m, x ≤ d[m]! := fun x hx => by
      by_cases h0 : m = 0
      · subst h0; simp [Lib.compactUpTo] at hx
      · have := hs (m - 1) (by omega)
        rw [show m - 1 + 1 = m by omega] at this
        exact List.le_trans (h2 x hx) this
    refine ⟨?_, ?_⟩
    · rw [List.pairwise_append]
      refine ⟨h1, by split <;> simp, fun x hx y hy => ?_⟩
      cases hk : Lib.keeps d m
      · rw [hk] at hy; simp at hy
      · rw [hk] at hy
        have hy : y = d[m]! := by simpa using hy
        subst hy
        refine lt_of_le_ne (hle x hx) fun e => ?_
        by_cases h0 : m = 0
        · subst h0; simp [Lib.compactUpTo] at hx
        · have hk' : d[m]! ≠ d[m - 1]! := by
            simp only [Lib.keeps, decide_eq_true_eq] at hk
            rcases hk with h | h
            · exact absurd h h0
            · exact h
          have a1 := h2 x hx
          rw [e] at a1
          have a2 := hs (m - 1) (by omega)
          rw [show m - 1 + 1 = m by omega] at a2
          exact hk' (List.le_antisymm a1 a2)
    · intro x hx
      rw [Nat.add_sub_cancel]
      rcases List.mem_append.1 hx with h | h
      · exact hle x h
      · split at h
        · rw [List.mem_singleton.1 h]; exact List.le_refl _
        · cases h
theorem compact_strict {zs : List (List UInt8)} (h : zs.Pairwise (· ≤ ·)) : (Lib.compact zs).Pairwise (· < ·) := by
  refine (compactUpTo_strict zs.toArray (fun j hj => ?_) zs.length (by simp)).1
  have hj' : j + 1 < zs.length := by simpa using hj
  have := List.pairwise_iff_getElem.1 h j (j + 1) (by omega) hj' (by omega)
  simpa [hj', show j < zs.length by omega] using this
theorem strict_ext : ∀ {a b : List (List UInt8)}, a.Pairwise (· < ·) → b.Pairwise (· < ·) → (∀ x, x ∈ a ↔ x ∈ b) → a = b
  | [], [], _, _, _ => rfl
  | [], y :: b, _, _, h => by have := (h y).2 (by simp); simp at this
  | x :: a, [], _, _, h => by have := (h x).1 (by simp); simp at this
  | x :: a, y :: b, ha, hb, h => by
    rw [List.pairwise_cons] at ha hb
    have hxy : x = y := by
      have h1 := (h x).1 (by simp)
      have h2 := (h y).2 (by simp)
      rcases List.mem_cons.1 h1 with e | h1
      · exact e
      · rcases List.mem_cons.1 h2 with e | h2
        · exact e.symm
        · exact absurd (List.lt_trans (hb.1 x h1) (ha.1 y h2)) (List.lt_irrefl _)
    subst hxy
    rw [strict_ext ha.2 hb.2 fun z => ?_]
    constructor
    · intro hz
      rcases List.mem_cons.1 ((h z).1 (List.mem_cons_of_mem _ hz)) with e | h'
      · subst e; exact absurd (ha.1 z hz) (List.lt_irrefl _)
      · exact h'
    · intro hz
      rcases List.mem_cons.1 ((h z).2 (List.mem_cons_of_mem _ hz)) with e | h'
      · subst e; exact absurd (hb.1 z hz) (List.lt_irrefl _)
      · exact h'
theorem sorted_merge (l : List (List UInt8)) : (l.mergeSort fun x y => decide (x ≤ y)).Pairwise (· ≤ ·) := by
  have := List.pairwise_mergeSort (le := fun (x y : List UInt8) => decide (x ≤ y)) (fun a b c h1 h2 => by simp only [decide_eq_true_eq] at *; exact List.le_trans h1 h2) (fun a b => by
    simp only [Bool.or_eq_true, decide_eq_true_eq]; exact List.le_total a b) l
  exact this.imp fun h => by simpa using h
theorem sortL_toL (ks : List ByteArray) : (sortL ks).map toL = (ks.map toL).mergeSort fun x y => decide (x ≤ y) := by
  unfold sortL
  rw [List.map_map]
  have : (toL ∘ ofL) = id := funext fun l => toL_ofL l
  rw [this, List.map_id]
/-- Whether some are struck out ahead or behind: the same are left. -/
theorem cs_filter (q : ByteArray → Bool) (ks : List ByteArray) : (compactL (sortL ks)).filter q = compactL (sortL (ks.filter q)) := by
  have e1 : ∀ l : List ByteArray, compactL (sortL l) = (Lib.compact ((l.map toL).mergeSort fun x y => decide (x ≤ y))).map ofL := fun l => by
    unfold compactL; rw [sortL_toL]
  rw [e1, e1, List.filter_map]
  congr 1
  refine strict_ext ((compact_strict (sorted_merge _)).filter _) (compact_strict (sorted_merge _)) fun x => ?_
  rw [List.mem_filter, mem_compact, mem_compact, List.mem_mergeSort, List.mem_mergeSort]
  simp only [List.mem_map, List.mem_filter, Function.comp]
  constructor
  · rintro ⟨⟨k, hk, rfl⟩, hq⟩
    rw [ofL_toL] at hq
    exact ⟨k, ⟨hk, hq⟩, rfl⟩
  · rintro ⟨k, ⟨hk, hq⟩, rfl⟩
    exact ⟨⟨k, hk, rfl⟩, by rw [ofL_toL]; exact hq⟩
end Go.Proofs.YthmdhokmgicnmaaGreatDoor
