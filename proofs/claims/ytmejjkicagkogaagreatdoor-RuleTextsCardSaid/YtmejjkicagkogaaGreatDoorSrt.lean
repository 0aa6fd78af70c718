/- Plain facts of the reference's faults. -/
import Derived.Test.YtmejjkicagkogaaGreatDoorSpg
import Derived.Test.YtmejjkicagkogaaGreatDoorRefc
import Derived.Deep.CutRange
namespace Go.Proofs.YtmejjkicagkogaaGreatDoor
open Go.RowKit

/-- The name before number k. -/
def lastR (rs : List RD) (k : Nat) : ByteArray := if k = 0 then ⟨#[]⟩ else (rlAt rs (k - 1)).key
def nmB (r : RD) : Bool := keyB r.key && keyB r.stat && (decide (r.pos.size = 0) || keyB r.pos)
def bndB (kind : Int) : Bool := kind == 2 || kind == 3
theorem rl_name {rs : List RD} {k : Nat} {r : RD} (h : rs[k]? = some r) (hn : nmB r = false) : rlF rs k = 5 := by
  unfold rlF
  rw [rlAt_some h]
  unfold nmB at hn
  cases h1 : keyB r.key <;> cases h2 : keyB r.stat <;> cases h3 : decide (r.pos.size = 0) <;> cases h4 : keyB r.pos <;> simp_all [unlessE, firstE]
theorem rl_ord {rs : List RD} {k : Nat} (h : keyB (rlAt rs k).key = true) : ltS (lastR rs k) (rlAt rs k).key = (decide (k = 0) || ltS (rlAt rs (k - 1)).key (rlAt rs k).key) := by
  unfold lastR
  by_cases h0 : k = 0
  · subst h0; simp [lt_empty h]
  · simp [h0]
theorem rl_order {rs : List RD} {k : Nat} {r : RD} (h : rs[k]? = some r) (hn : nmB r = true) (ho : ltS (lastR rs k) r.key = false) : rlF rs k = 7 := by
  have hk : keyB r.key = true := by unfold nmB at hn; revert hn; cases keyB r.key <;> simp
  have h2 := rl_ord (rs := rs) (k := k) (by rw [rlAt_some h]; exact hk)
  rw [rlAt_some h, ho] at h2
  unfold rlF
  rw [rlAt_some h, ← h2]
  unfold nmB at hn
  rw [Bool.and_eq_true, Bool.and_eq_true] at hn
  rw [hn.1.1, hn.1.2, hn.2]
  simp [unlessE, firstE]
theorem rl_rest {rs : List RD} {k : Nat} {r : RD} (h : rs[k]? = some r) (hn : nmB r = true) (ho : ltS (lastR rs k) r.key = true) : rlF rs k = firstE [unlessE (betwB r.kind 1 4) 4, unlessE (manyB r.kind r.many) 1, wrongF r.num r.den 10000] := by
  have hk : keyB r.key = true := by unfold nmB at hn; revert hn; cases keyB r.key <;> simp
  have h2 := rl_ord (rs := rs) (k := k) (by rw [rlAt_some h]; exact hk)
  rw [rlAt_some h, ho] at h2
  unfold rlF
  rw [rlAt_some h, ← h2]
  unfold nmB at hn
  rw [Bool.and_eq_true, Bool.and_eq_true] at hn
  rw [hn.1.1, hn.1.2, hn.2]
  simp [unlessE, firstE]
theorem eachE_hit {n k : Nat} {most : Int} {f : Nat → Int} (hm : (n : Int) ≤ most) (hk : k < n) (h0 : ∀ i, i < k → f i = 0) (h : f k ≠ 0) : eachE n most f = f k := by
  unfold eachE
  rw [if_neg (by omega), Int.toNat_natCast]
  exact errsTo_hit hk h0 h
theorem eachE_none {n : Nat} {most : Int} {f : Nat → Int} (hm : (n : Int) ≤ most) (h0 : ∀ i, i < n → f i = 0) : eachE n most f = 0 := by
  unfold eachE
  rw [if_neg (by omega), Int.toNat_natCast]
  exact errsTo_none h0
theorem many_bnd (kind many : Int) : manyB kind many = if bndB kind then betwB many 1 100000 else many == 0 := by
  unfold manyB bndB
  by_cases h2 : kind = 2
  · simp [h2]
  · by_cases h3 : kind = 3
    · simp [h3]
    · simp [h2, h3]
end Go.Proofs.YtmejjkicagkogaaGreatDoor
