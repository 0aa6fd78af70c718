/- Strings sorted: slices.Sort. -/
import Derived.Test.YtddnnjblpgfjeaaGreatDoorMgap
import Derived.Sort.OwnSorted
import Derived.Sort.EncStr
namespace Go.Proofs.YtddnnjblpgfjeaaGreatDoor
open Go.RowKit Go.Sort

def toL (k : ByteArray) : List UInt8 := k.data.toList
def ofL (l : List UInt8) : ByteArray := ⟨l.toArray⟩
theorem ofL_toL (k : ByteArray) : ofL (toL k) = k := by cases k; simp [ofL, toL]
theorem map_ofL_toL (ks : List ByteArray) : (ks.map toL).map ofL = ks := by
 induction ks with
 | nil => rfl
 | cons k ks ih => simp only [List.map_cons, ofL_toL, ih]
theorem enc_map (ls : List (List UInt8)) : (ls.map ofL).map Value.string = ls.map encStr := by
 rw [List.map_map]; rfl
theorem enc_map' (ks : List ByteArray) : ks.map Value.string = (ks.map toL).map encStr := by
 rw [← enc_map, map_ofL_toL]
/-- Sorted; each once of those that follow each other. -/
def sortL (ks : List ByteArray) : List ByteArray := ((ks.map toL).mergeSort fun x y => decide (x ≤ y)).map ofL
theorem sortL_length (ks : List ByteArray) : (sortL ks).length = ks.length := by simp [sortL]
/-- Strings that the call made itself. -/
def OwnSt (w : World) (base : Nat) (v : Value) (ks : List ByteArray) : Prop := w.ownsRow base 9 1 v ks.length (ks.map Value.string)
set_option maxRecDepth 100000 in
set_option maxHeartbeats 1000000 in
theorem sortS_calls (base : Nat) (v : Value) (ks : List ByteArray) (w : World) (h : OwnSt w base v ks) (hn : ks.length ≤ 1000000) :
  Calls Tryz.prog 55 #[v] w fun e w' => e = .returned (.tuple #[]) ∧ OwnSt w' base v (sortL ks) ∧ w.grownBy w' v.ownBlock := by
 rcases h.2 with ⟨rfl, h0⟩ | ⟨g, cap, cur, rfl, hb, hg, h1, h2, h3, h4⟩
 ·obtain rfl : ks = [] := List.eq_nil_of_length_eq_zero h0
  refine (Tryz.slices_Sort_string_none none 0 w).mono ?_; rintro e w' ⟨rfl, rfl⟩; have e0 : sortL [] = [] := by simp [sortL]
  rw [e0]; exact ⟨rfl, World.ownsRow_nil _ _ _ _, gb_refl _ _⟩
 ·have hl : (ks.map toL).length = ks.length := by simp
  have h4' : cur.toList.take (ks.map toL).length = (ks.map toL).map encStr := by
   rw [hl, ← enc_map']; simpa using h4
  have hc := Tryz.slices_Sort_string g 0 cap (ks.map toL) w (holds_of_block hg h4') (lt_of_heap hg) (by rw [hl]; omega)
  rw [hl] at hc
  refine hc.mono ?_; rintro e w' ⟨rfl, q, os, rfl⟩; refine ⟨rfl, ?_, grownBy_sorted _⟩; have := ownsRow_sorted (n := q) (os := os) (ss := ks.map toL) (ts := (ks.map toL).mergeSort fun x y => decide (x ≤ y)) (by simp) hb hg (by rw [hl]; exact h1) h2 h3
  unfold OwnSt; rw [sortL_length]; unfold sortL; rw [enc_map]; rw [hl] at this
  exact this
theorem merge_sorted (l : List (List UInt8)) : (l.mergeSort fun x y => decide (x ≤ y)).Pairwise (· ≤ ·) := by
 have := List.pairwise_mergeSort (le := fun x y : List UInt8 => decide (x ≤ y)) (fun a b c h1 h2 => by
  have h1' := of_decide_eq_true h1
  have h2' := of_decide_eq_true h2
  exact decide_eq_true (List.le_trans h1' h2')) (fun a b => by
  rcases List.le_total a b with h | h
  ·simp [h]
  ·simp [h]) l
 exact this.imp fun h => of_decide_eq_true h
theorem sortL_perm {a b : List ByteArray} (h : a.Perm b) : sortL a = sortL b := by
 unfold sortL
 congr 1
 refine List.Perm.eq_of_pairwise (le := (· ≤ ·)) (fun x y _ _ h1 h2 => List.le_antisymm h1 h2) (merge_sorted _) (merge_sorted _) ?_
 exact (List.mergeSort_perm _ _).trans ((h.map toL).trans (List.mergeSort_perm _ _).symm)
end Go.Proofs.YtddnnjblpgfjeaaGreatDoor
