/- Comparing functions: what each is asked for, and one after the other. -/
import Derived.Sort.Statements
import Derived.Lib.Small
import Derived.Test.YtddnnjblpgfjeaaGreatDoorMgab
namespace Go.Proofs.YtddnnjblpgfjeaaGreatDoor
variable {α : Type}

/-- A comparing function as one sorts by: it knows both ways, and orders. -/
structure CmpOk (cf : α → α → Int) : Prop where
 flip : ∀ x y, cf x y < 0 ↔ 0 < cf y x
 le : ∀ x y z, cf x y ≤ 0 → cf y z ≤ 0 → cf x z ≤ 0
def ltC (cf : α → α → Int) (x y : α) : Bool := decide (cf x y < 0)
/-- By one, then by another one. -/
def thenC (c d : α → α → Int) (x y : α) : Int := if c x y = 0 then d x y else c x y
theorem CmpOk.zero {cf : α → α → Int} (h : CmpOk cf) {x y : α} (e : cf x y = 0) : cf y x = 0 := by
 have h1 := h.flip x y
 have h2 := h.flip y x
 omega
theorem CmpOk.self {cf : α → α → Int} (h : CmpOk cf) (x : α) : cf x x = 0 := by
 have h1 := h.flip x x
 omega
theorem CmpOk.lt_le {cf : α → α → Int} (h : CmpOk cf) {x y z : α} (h1 : cf x y < 0) (h2 : cf y z ≤ 0) : cf x z < 0 := by
 have h3 := h.le x y z (by omega) h2
 rcases Decidable.em (cf x z = 0) with e | e
 ·have h4 := h.le y z x h2 (by rw [h.zero e]; exact Int.le_refl _)
  have := (h.flip x y).1 h1
  omega
 ·omega
theorem CmpOk.le_lt {cf : α → α → Int} (h : CmpOk cf) {x y z : α} (h1 : cf x y ≤ 0) (h2 : cf y z < 0) : cf x z < 0 := by
 have h3 := h.le x y z h1 (by omega)
 rcases Decidable.em (cf x z = 0) with e | e
 ·have h4 := h.le z x y (by rw [h.zero e]; exact Int.le_refl _) h1
  have := (h.flip y z).1 h2
  omega
 ·omega
theorem CmpOk.swo {cf : α → α → Int} (h : CmpOk cf) : Go.Sort.SWO (ltC cf) where
 irrefl x := by unfold ltC; rw [h.self x]; rfl
 trans x y z h1 h2 := by
  unfold ltC at *
  have h1' := of_decide_eq_true h1
  have h2' := of_decide_eq_true h2
  exact decide_eq_true (h.lt_le h1' (by omega))
 ntrans x y z h1 h2 := by
  unfold ltC at *
  have h1' := of_decide_eq_false h1
  have h2' := of_decide_eq_false h2
  refine decide_eq_false fun h3 => ?_
  have a := h.flip x y; have b := h.flip y x; have c := h.flip y z; have d := h.flip z y; have e := (h.flip x z).1 h3; have := h.le z y x (by omega) (by omega)
  omega
theorem CmpOk.same {cf : α → α → Int} (h : CmpOk cf) {x y : α} : (ltC cf x y = false ∧ ltC cf y x = false) ↔ cf x y = 0 := by
 unfold ltC
 have a := h.flip x y
 have b := h.flip y x
 rw [decide_eq_false_iff_not, decide_eq_false_iff_not]
 omega
theorem CmpOk.then {c d : α → α → Int} (h : CmpOk c) (k : CmpOk d) : CmpOk (thenC c d) where
 flip x y := by
  unfold thenC; by_cases e : c x y = 0
  ·rw [if_pos e, if_pos (h.zero e)]; exact k.flip x y
  ·have e' : ¬ c y x = 0 := fun e' => e (h.zero e')
   rw [if_neg e, if_neg e']; exact h.flip x y
 le x y z h1 h2 := by
  unfold thenC at *
  by_cases e1 : c x y = 0
  ·rw [if_pos e1] at h1
   by_cases e2 : c y z = 0
   ·rw [if_pos e2] at h2
    have a := h.le x y z (by omega) (by omega)
    have b := h.le z y x (by rw [h.zero e2]; exact Int.le_refl _) (by rw [h.zero e1]; exact Int.le_refl _)
    have f := h.flip x z; have g := h.flip z x; rw [if_pos (by omega)]
    exact k.le x y z h1 h2
   ·rw [if_neg e2] at h2
    have a := h.le_lt (x := x) (y := y) (z := z) (by omega) (by omega)
    rw [if_neg (by omega)]
    omega
  ·rw [if_neg e1] at h1
   have h2' : c y z ≤ 0 := by
    by_cases e2 : c y z = 0
    ·omega
    ·rw [if_neg e2] at h2; exact h2
   have a := h.lt_le (x := x) (y := y) (z := z) (by omega) h2'
   rw [if_neg (by omega)]
   omega
/-- By what is read off each. -/
theorem CmpOk.on {β : Type} {c : β → β → Int} (h : CmpOk c) (f : α → β) : CmpOk fun x y => c (f x) (f y) where
 flip x y := h.flip (f x) (f y)
 le x y z := h.le (f x) (f y) (f z)
/-- Two ints. -/
theorem compareInt_ok : CmpOk Go.Lib.compareInt where
 flip x y := by
  unfold Go.Lib.compareInt
  split
  ·omega
  ·split <;> omega
 le x y z h1 h2 := by
  unfold Go.Lib.compareInt at *
  split at h1
  ·split at h2
   ·rw [if_pos (by omega)]; omega
   ·split at h2
    ·omega
    ·rw [if_pos (by omega)]; omega
  ·split at h1
   ·omega
   ·split at h2
    ·rw [if_pos (by omega)]; omega
    ·split at h2
     ·omega
     ·rw [if_neg (by omega), if_neg (by omega)]; omega
/-- Two strings. -/
theorem cmpS_flipC (a b : ByteArray) : cmpS a b = - cmpS b a := by
 unfold cmpS
 cases h1 : ltS a b
 ·cases he : beqS a b
  ·have h2 := ltS_or h1 he
   rw [h2]; rfl
  ·have e := beqS_iff.1 he
   subst e; rw [h1, beqS_self]; rfl
 ·rw [ltS_asymm h1]
  have he : beqS b a = false := by
   cases hh : beqS b a
   ·rfl
   ·have := beqS_iff.1 hh; rw [this, ltS_irrefl] at h1; cases h1
  rw [he]; rfl
theorem cmpS_sameC {a b : ByteArray} (h : cmpS a b = 0) : a = b := by
 have := cmpS_zero a b
 rw [h] at this
 exact beqS_iff.1 this.symm
theorem cmpS_le {a b : ByteArray} : cmpS a b ≤ 0 ↔ ltS b a = false := by
 unfold cmpS
 cases h1 : ltS a b with
 | true =>
  rw [if_pos rfl, ltS_asymm h1]; simp
 | false =>
  rw [if_neg (by simp)]
  cases h2 : beqS a b with
  | true =>
   rw [if_pos rfl]
   have : ltS b a = false := by
    cases h3 : ltS b a with
    | false => rfl
    | true =>
     have := ltS_ne h3
     have e : a = b := by
      have := cmpS_sameC (a := a) (b := b) (by unfold cmpS; rw [h1, h2]; rfl)
      exact this
     subst e; rw [h2] at this; cases this
   simp [this]
  | false =>
   rw [if_neg (by simp), ltS_or h1 h2]
   simp
theorem cmpS_ok : CmpOk cmpS where
 flip a b := by have := cmpS_flipC a b; omega
 le a b c h1 h2 := by
  rw [cmpS_le] at *
  cases h3 : ltS c a with
  | false => rfl
  | true =>
   cases h4 : ltS b c with
   | true => rw [ltS_trans h4 h3] at h1; cases h1
   | false =>
    have e : b = c := cmpS_sameC (by
     have f := cmpS_flipC b c; have g : cmpS c b ≤ 0 := cmpS_le.2 h4
     have g2 : cmpS b c ≤ 0 := cmpS_le.2 h2
     omega)
    subst e; rw [h3] at h1; cases h1
end Go.Proofs.YtddnnjblpgfjeaaGreatDoor
