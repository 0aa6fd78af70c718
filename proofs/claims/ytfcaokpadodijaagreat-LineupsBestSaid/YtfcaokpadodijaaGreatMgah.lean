/- A binary search over keys, told plainly. -/
import Derived.Test.YtfcaokpadodijaaGreatMgag
import Derived.Test.YtfcaokpadodijaaGreatMgab
namespace Go.Proofs.YtfcaokpadodijaaGreat
open Go.RowKit

/-- The key of player i. -/
def keyAt (ps : List ByteArray) (i : Nat) : ByteArray := ps[i]?.getD ByteArray.empty
theorem keyAt_some {ps : List ByteArray} {i : Nat} {p : ByteArray} (h : ps[i]? = some p) : keyAt ps i = p := by simp [keyAt, h]
/-- Is a key among some? -/
def hasK (ps : List ByteArray) (key : ByteArray) : Bool := ps.any fun p => beqS p key
/-- The search, from i to j. -/
def bs (ps : List ByteArray) (who : ByteArray) : Nat → Nat → Nat → Nat
 | 0, i, _ => i
 | f + 1, i, j => if i < j then (if ltS (keyAt ps ((i + j) / 2)) who then bs ps who f ((i + j) / 2 + 1) j else bs ps who f i ((i + j) / 2)) else i
def bsI (ps : List ByteArray) (who : ByteArray) : Nat := bs ps who ps.length 0 ps.length
def knownB (ps : List ByteArray) (who : ByteArray) : Bool := decide (bsI ps who < ps.length) && beqS (keyAt ps (bsI ps who)) who

theorem bs_end {ps : List ByteArray} {who : ByteArray} {f i j : Nat} (h : ¬ i < j) : bs ps who f i j = i := by
 cases f with
 | zero => rfl
 | succ f => rw [bs, if_neg h]
theorem bs_left {ps : List ByteArray} {who : ByteArray} {f i j : Nat} (h : i < j) (hf : j - i ≤ f) (hl : ltS (keyAt ps ((i + j) / 2)) who = true) : ∃ f', bs ps who f i j = bs ps who f' ((i + j) / 2 + 1) j ∧ j - ((i + j) / 2 + 1) ≤ f' := by
 cases f with
 | zero => omega
 | succ f => exact ⟨f, by rw [bs, if_pos h, if_pos hl], by omega⟩
theorem bs_right {ps : List ByteArray} {who : ByteArray} {f i j : Nat} (h : i < j) (hf : j - i ≤ f) (hl : ltS (keyAt ps ((i + j) / 2)) who = false) : ∃ f', bs ps who f i j = bs ps who f' i ((i + j) / 2) ∧ (i + j) / 2 - i ≤ f' := by
 cases f with
 | zero => omega
 | succ f => exact ⟨f, by rw [bs, if_pos h, hl]; rfl, by omega⟩

/-- Keys rise. -/
def SortedK (ps : List ByteArray) : Prop := ∀ i j, i < j → j < ps.length → ltS (keyAt ps i) (keyAt ps j) = true
theorem bs_spec {ps : List ByteArray} (hs : SortedK ps) (who : ByteArray) : ∀ f i j, i ≤ j → j ≤ ps.length → j - i ≤ f → (∀ k, k < i → ltS (keyAt ps k) who = true) → (∀ k, j ≤ k → k < ps.length → ltS (keyAt ps k) who = false) →
  (∀ k, k < bs ps who f i j → ltS (keyAt ps k) who = true) ∧ (∀ k, bs ps who f i j ≤ k → k < ps.length → ltS (keyAt ps k) who = false) := by
 intro f
 induction f with
 | zero =>
  intro i j hij _ hf h1 h2; have : i = j := by omega
  subst this; exact ⟨h1, h2⟩
 | succ f ih =>
  intro i j hij hj hf h1 h2; rw [bs]; split
  ·rename_i hlt
   split
   ·rename_i hl
    refine ih _ _ (by omega) hj (by omega) (fun k hk => ?_) h2
    rcases Nat.lt_succ_iff_lt_or_eq.1 hk with h | rfl
    ·exact ltS_trans (hs k _ h (by omega)) hl
    ·exact hl
   ·rename_i hl
    have hl' : ltS (keyAt ps ((i + j) / 2)) who = false := by simpa using hl
    refine ih _ _ (by omega) (by omega) (by omega) h1 (fun k hk hkn => ?_)
    rcases Nat.lt_or_eq_of_le hk with h | rfl
    ·cases hh : ltS (keyAt ps k) who
     ·rfl
     ·have := ltS_trans (hs _ k h hkn) hh
      rw [hl'] at this; cases this
    ·exact hl'
  ·rename_i hn
   have : i = j := by omega
   subst this; exact ⟨h1, h2⟩
theorem known_eq {ps : List ByteArray} (hs : SortedK ps) (who : ByteArray) : knownB ps who = hasK ps who := by
 obtain ⟨h1, h2⟩ := bs_spec hs who ps.length 0 ps.length (Nat.zero_le _) (Nat.le_refl _) (by omega) (fun k hk => by omega) (fun k hk hk' => by omega)
 have h1' : ∀ k, k < bsI ps who → ltS (keyAt ps k) who = true := h1
 have h2' : ∀ k, bsI ps who ≤ k → k < ps.length → ltS (keyAt ps k) who = false := h2
 unfold knownB
 cases hh : hasK ps who
 ·rw [Bool.and_eq_false_iff]
  by_cases hl : bsI ps who < ps.length
  ·right
   have hp : ps[bsI ps who]? = some ps[bsI ps who] := List.getElem?_eq_getElem hl
   rw [keyAt_some hp]; cases hb : beqS (ps[bsI ps who]) who
   ·rfl
   ·rw [hasK] at hh
    rw [List.any_eq_false] at hh
    exact absurd hb (hh _ (List.getElem_mem hl))
  ·left; simp; omega
 ·rw [hasK, List.any_eq_true] at hh
  obtain ⟨p, hp, hb⟩ := hh; obtain ⟨k, hk⟩ := List.getElem?_of_mem hp; have hkl : k < ps.length := (List.getElem?_eq_some_iff.1 hk).1
  have hpk : p = who := beqS_iff.1 hb
  have e : keyAt ps k = who := by rw [keyAt_some hk, hpk]
  have hle : bsI ps who ≤ k := by
   rcases Nat.lt_or_ge k (bsI ps who) with h | h
   ·have := h1' k h; rw [e, ltS_irrefl] at this; cases this
   ·exact h
  have heq : bsI ps who = k := by
   rcases Nat.lt_or_eq_of_le hle with h | h
   ·have a := hs _ k h hkl
    rw [e] at a
    have b := h2' (bsI ps who) (Nat.le_refl _) (by omega)
    rw [b] at a; cases a
   ·exact h
  rw [heq, e, beqS_self]
  simp [hkl]

/-- What a search answers. -/
def Found (ps : List ByteArray) (who : ByteArray) (w : World) (e : Ending) (w' : World) : Prop := e = .returned (.tuple #[.int .i64 (bsI ps who : Int), .bool (knownB ps who)]) ∧ Below w.heap.size w w'
def BoolIs (b : Bool) (w : World) (e : Ending) (w' : World) : Prop := e = .returned (.bool b) ∧ Below w.heap.size w w'
end Go.Proofs.YtfcaokpadodijaaGreat
