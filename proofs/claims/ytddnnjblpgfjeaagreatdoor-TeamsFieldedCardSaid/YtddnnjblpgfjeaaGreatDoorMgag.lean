/- A binary search by a comparing function, told plainly: c k says how element k stands to what is looked for. -/
import Derived.Lib.Small
namespace Go.Proofs.YtddnnjblpgfjeaaGreatDoor

/-- The search, from i to j. -/
def bsC (c : Nat → Int) : Nat → Nat → Nat → Nat
 | 0, i, _ => i
 | f + 1, i, j => if i < j then (if c ((i + j) / 2) < 0 then bsC c f ((i + j) / 2 + 1) j else bsC c f i ((i + j) / 2)) else i
theorem bsC_end {c : Nat → Int} {f i j : Nat} (h : ¬ i < j) : bsC c f i j = i := by
 cases f with
 | zero => rfl
 | succ f => rw [bsC, if_neg h]
theorem bsC_left {c : Nat → Int} {f i j : Nat} (h : i < j) (hf : j - i ≤ f) (hl : c ((i + j) / 2) < 0) : ∃ f', bsC c f i j = bsC c f' ((i + j) / 2 + 1) j ∧ j - ((i + j) / 2 + 1) ≤ f' := by
 cases f with
 | zero => omega
 | succ f => exact ⟨f, by rw [bsC, if_pos h, if_pos hl], by omega⟩
theorem bsC_right {c : Nat → Int} {f i j : Nat} (h : i < j) (hf : j - i ≤ f) (hl : ¬ c ((i + j) / 2) < 0) : ∃ f', bsC c f i j = bsC c f' i ((i + j) / 2) ∧ (i + j) / 2 - i ≤ f' := by
 cases f with
 | zero => omega
 | succ f => exact ⟨f, by rw [bsC, if_pos h, if_neg hl], by omega⟩
/-- What stands before one that is not behind what is looked for stands before it. -/
def RiseC (c : Nat → Int) (n : Nat) : Prop := ∀ a b, a < b → b < n → c b ≤ 0 → c a < 0
theorem bsC_spec {c : Nat → Int} {n : Nat} (hs : RiseC c n) : ∀ f i j, i ≤ j → j ≤ n → j - i ≤ f → (∀ k, k < i → c k < 0) → (∀ k, j ≤ k → k < n → ¬ c k < 0) →
  (∀ k, k < bsC c f i j → c k < 0) ∧ (∀ k, bsC c f i j ≤ k → k < n → ¬ c k < 0) := by
 intro f
 induction f with
 | zero =>
  intro i j hij _ hf h1 h2; obtain rfl : i = j := by omega
  exact ⟨h1, h2⟩
 | succ f ih =>
  intro i j hij hj hf h1 h2; rw [bsC]; split
  ·rename_i hlt
   split
   ·rename_i hl
    refine ih _ _ (by omega) hj (by omega) (fun k hk => ?_) h2
    rcases Nat.lt_succ_iff_lt_or_eq.1 hk with h | rfl
    ·exact hs k _ h (by omega) (by omega)
    ·exact hl
   ·rename_i hl
    refine ih _ _ (by omega) (by omega) (by omega) h1 (fun k hk hkn => ?_)
    rcases Nat.lt_or_eq_of_le hk with h | rfl
    ·intro hh; exact hl (hs _ k h hkn (by omega))
    ·exact hl
  ·rename_i hn
   obtain rfl : i = j := by omega
   exact ⟨h1, h2⟩
/-- Where the search ends, and whether it found. -/
def bsCI (c : Nat → Int) (n : Nat) : Nat := bsC c n 0 n
def bsCB (c : Nat → Int) (n : Nat) : Bool := decide (bsCI c n < n) && decide (c (bsCI c n) = 0)
theorem bsC_found {c : Nat → Int} {n k : Nat} (hs : RiseC c n) (hk : k < n) (h0 : c k = 0) : bsCI c n = k ∧ bsCB c n = true := by
 obtain ⟨h1, h2⟩ := bsC_spec hs n 0 n (Nat.zero_le _) (Nat.le_refl _) (by omega) (fun k hk => by omega) (fun k hk hk' => by omega)
 have e : bsCI c n = k := by
  rcases Nat.lt_trichotomy k (bsC c n 0 n) with h | h | h
  ·have := h1 k h; omega
  ·exact h.symm
  ·have := hs _ k h hk (by omega)
   exact absurd this (h2 _ (Nat.le_refl _) (by omega))
 exact ⟨e, by unfold bsCB; rw [e, h0]; simp [hk]⟩
theorem bsCB_iff {c : Nat → Int} {n : Nat} (hs : RiseC c n) : bsCB c n = true ↔ ∃ k, k < n ∧ c k = 0 := by
 constructor
 ·intro h
  unfold bsCB at h
  rw [Bool.and_eq_true, decide_eq_true_eq, decide_eq_true_eq] at h
  exact ⟨_, h.1, h.2⟩
 ·rintro ⟨k, hk, h0⟩
  exact (bsC_found hs hk h0).2
end Go.Proofs.YtddnnjblpgfjeaaGreatDoor
