/- Plain facts on the order of strings. -/
import Derived.Test.YtddnnjblpgfjeaaGreatDoorMgaa
import Derived.Lib.Bytealg
namespace Go.Proofs.YtddnnjblpgfjeaaGreatDoor
open Go

/-- Is a string before another one? -/
def ltS (a b : ByteArray) : Bool := Op.bytesLess a.toList b.toList
theorem u8_lt_irrefl (a : UInt8) : ¬ a < a := by simp
theorem bl_irrefl : ∀ l, Op.bytesLess l l = false
 | [] => rfl
 | a :: l => by simp [Op.bytesLess, bl_irrefl l]
theorem bl_total : ∀ a b, (Op.bytesLess a b || a == b) = !Op.bytesLess b a
 | [], [] => rfl
 | [], _ :: _ => rfl
 | _ :: _, [] => rfl
 | a :: x, b :: y => by
  have ih := bl_total x y; simp only [Op.bytesLess]; rcases Nat.lt_trichotomy a.toNat b.toNat with h | h | h
  ·have h1 : a < b := UInt8.lt_iff_toNat_lt.2 h
   have h2 : ¬ b < a := fun h' => by have := UInt8.lt_iff_toNat_lt.1 h'; omega
   have h3 : ¬ b = a := fun e => by subst e; omega
   have h4 : (b == a) = false := by simp [h3]
   simp [h1, h2, h4]
  ·have h1 : a = b := UInt8.toNat_inj.1 h
   subst h1; have h2 : ¬ a < a := u8_lt_irrefl a
   simp [h2, ← ih]
  ·have h1 : b < a := UInt8.lt_iff_toNat_lt.2 h
   have h2 : ¬ a < b := fun h' => by have := UInt8.lt_iff_toNat_lt.1 h'; omega
   have h3 : ¬ a = b := fun e => by subst e; omega
   have h4 : (a == b) = false := by simp [h3]
   simp [h1, h2, h4]
theorem bl_trans : ∀ a b c, Op.bytesLess a b = true → Op.bytesLess b c = true → Op.bytesLess a c = true
 | _, [], _, h, _ => by simp [Op.bytesLess] at h
 | _, _ :: _, [], _, h => by simp [Op.bytesLess] at h
 | [], b :: y, c :: z, _, _ => by simp [Op.bytesLess]
 | a :: x, b :: y, c :: z, h1, h2 => by
  simp only [Op.bytesLess, Bool.or_eq_true, decide_eq_true_eq, Bool.and_eq_true, beq_iff_eq] at h1 h2 ⊢
  rcases h1 with h1 | ⟨rfl, h1⟩
  ·rcases h2 with h2 | ⟨rfl, h2⟩
   ·left; rw [UInt8.lt_iff_toNat_lt] at *; omega
   ·left; exact h1
  ·rcases h2 with h2 | ⟨rfl, h2⟩
   ·left; exact h2
   ·right; exact ⟨rfl, bl_trans x y z h1 h2⟩
theorem cmp_bl : ∀ a b, Lib.compareBytes a b = if Op.bytesLess a b then -1 else if a == b then 0 else 1
 | [], [] => rfl
 | [], _ :: _ => rfl
 | _ :: _, [] => rfl
 | a :: x, b :: y => by
  unfold Lib.compareBytes
  rw [cmp_bl x y]; simp only [Op.bytesLess]; rcases Nat.lt_trichotomy a.toNat b.toNat with h | h | h
  ·have h1 : a < b := UInt8.lt_iff_toNat_lt.2 h
   simp [h1]
  ·have h1 : a = b := UInt8.toNat_inj.1 h
   subst h1; simp [u8_lt_irrefl a]
  ·have h1 : b < a := UInt8.lt_iff_toNat_lt.2 h
   have h2 : ¬ a < b := fun h' => by have := UInt8.lt_iff_toNat_lt.1 h'; omega
   have h3 : ¬ a = b := fun e => by subst e; omega
   simp [h1, h2, h3]
/-- strings.Compare. -/
def cmpS (a b : ByteArray) : Int := if ltS a b then -1 else if beqS a b then 0 else 1
theorem cmpS_eq (a b : ByteArray) : Lib.compareBytes a.data.toList b.data.toList = cmpS a b := by
 rw [cmp_bl, cmpS, ltS, beqS, ByteArray.toList_eq, ByteArray.toList_eq]
theorem beqS_iff {a b : ByteArray} : beqS a b = true ↔ a = b := by
 unfold beqS
 rw [beq_iff_eq, ByteArray.toList_eq, ByteArray.toList_eq]
 constructor
 ·intro h
  cases a with | mk x => cases b with | mk y => exact congrArg ByteArray.mk (Array.toList_inj.1 h)
 ·rintro rfl; rfl
theorem beqS_self (a : ByteArray) : beqS a a = true := beqS_iff.2 rfl
theorem leS_eq (a b : ByteArray) : (Op.bytesLess a.toList b.toList || a.toList == b.toList) = !ltS b a := bl_total _ _
theorem ltS_irrefl (a : ByteArray) : ltS a a = false := bl_irrefl _
theorem ltS_trans {a b c : ByteArray} (h1 : ltS a b = true) (h2 : ltS b c = true) : ltS a c = true := bl_trans _ _ _ h1 h2
theorem ltS_asymm {a b : ByteArray} (h : ltS a b = true) : ltS b a = false := by
 cases hh : ltS b a
 ·rfl
 ·have := ltS_trans h hh; rw [ltS_irrefl] at this; cases this
theorem ltS_ne {a b : ByteArray} (h : ltS a b = true) : beqS a b = false := by
 cases hh : beqS a b
 ·rfl
 ·have := beqS_iff.1 hh; subst this; rw [ltS_irrefl] at h; cases h
/-- What is not before and not one is behind. -/
theorem ltS_or {a b : ByteArray} (h1 : ltS a b = false) (h2 : beqS a b = false) : ltS b a = true := by
 have h := leS_eq a b
 have e1 : Op.bytesLess a.toList b.toList = false := h1
 have e2 : (a.toList == b.toList) = false := h2
 rw [e1, e2] at h
 simpa using h.symm
theorem cmpS_neg (a b : ByteArray) : decide (cmpS a b < 0) = ltS a b := by
 unfold cmpS
 cases ltS a b
 ·cases beqS a b <;> rfl
 ·rfl
theorem cmpS_zero (a b : ByteArray) : (cmpS a b == 0) = beqS a b := by
 unfold cmpS
 cases h : ltS a b
 ·cases beqS a b <;> rfl
 ·rw [ltS_ne h]; rfl
end Go.Proofs.YtddnnjblpgfjeaaGreatDoor
