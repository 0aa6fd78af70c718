/- slices.Equal at fills. -/
import Derived.Test.YtfcaokpadodijaaGreatMgam
import Derived.Laws.StructEq
namespace Go.Proofs.YtfcaokpadodijaaGreat
open Go.RowKit

/-- Are two fills one? -/
def fieq (a b : FiD) : Bool := beqS a.slot b.slot && beqS a.who b.who
theorem fieq_iff {a b : FiD} : fieq a b = true ↔ a = b := by
 unfold fieq
 cases a; cases b
 simp only [Bool.and_eq_true, beqS_iff, FiD.mk.injEq]
instance : DecidableEq FiD := fun a b => decidable_of_iff (fieq a b = true) fieq_iff
theorem run_neqFi (a b : FiD) (w : World) : (binOp .neq 49 (.agg #[.string a.slot, .string a.who]) (.agg #[.string b.slot, .string b.who])).run Tryz.prog w = .ok (.bool (!fieq a b)) w := by
 have u2 := Tryz.underlying9
 have hS : Tryz.prog.underlying 49 = some (.struct (Tryz.prog.fieldsOf 49)) := by kernel_rfl
 have hp : Tryz.prog.stoodInHeld 49 = false := by kernel_rfl
 rw [run_neq_struct, show (10000 : Nat) = 9999 + 1 from rfl, run_equalIn_agg w 9999 49 _ _ hS hp]
 simp only [Program.fieldsOf, Tryz.underlying49]
 go_simp
 unfold fieq beqS
 cases h3 : a.slot.toList == b.slot.toList <;> cases h4 : a.who.toList == b.who.toList <;> simp_all
theorem eqGuardFi (x y : Operand) (xs ys : Array Value) (w : World) : (eqGuard .neq 49 x y (.agg xs) (.agg ys)).run Tryz.prog w = .ok () w := run_eqGuard_agg w .neq 49 x y xs ys (by kernel_rfl)
theorem below_drewNf {w w' : World} (h : Below w.heap.size w w') (n : Nat) : Below w.heap.size w (w'.drewN n) := ⟨h.os, h.tape, h.output, h.size, h.block⟩
set_option maxRecDepth 100000 in
set_option maxHeartbeats 4000000 in
theorem equalFi_calls (lo lo' : Nat) (v v' : Value) (xs ys : List FiD) (w : World) (hv : Fis w lo v xs) (hv' : Fis w lo' v' ys) (ha : xs.length ≤ 1000000) (hb : ys.length ≤ 1000000) :
  Calls Tryz.prog 34 #[v, v'] w (BoolIs (decide (xs = ys)) w) := by
 obtain ⟨xa, xc, rfl⟩ := fis_shape hv
 obtain ⟨ya, yc, rfl⟩ := fis_shape hv'
 by_cases hl : xs.length = ys.length
 ·have HD := Lib.hid (show ∀ (i : Nat) (a b : FiD), xs[i]? = some a → ys[i]? = some b → fieq a b = false → decide (xs = ys) = false from fun i a b h1 h2 h3 => by
   refine decide_eq_false fun e => ?_
   rw [e, h2] at h1
   cases h1
   rw [fieq_iff.2 rfl] at h3; cases h3)
  have HT := Lib.hid (show (∀ (i : Nat) (a b : FiD), i < xs.length → xs[i]? = some a → ys[i]? = some b → fieq a b = true) → decide (xs = ys) = true from fun h => by
   refine decide_eq_true (List.ext_getElem? fun i => ?_)
   by_cases hi : i < xs.length
   ·rw [List.getElem?_eq_getElem hi, List.getElem?_eq_getElem (show i < ys.length by omega)]
    exact congrArg some (fieq_iff.1 (h i _ _ hi (List.getElem?_eq_getElem hi) (List.getElem?_eq_getElem _)))
   ·rw [List.getElem?_eq_none (by omega), List.getElem?_eq_none (by omega)])
  generalize decide (xs = ys) = R at HD HT ⊢
  have Hc : Hid (∀ (i : Nat) (a b : FiD), xs[i]? = some a → ys[i]? = some b → ∃ g off g' off', xa = some ⟨g, off, none⟩ ∧ ya = some ⟨g', off', none⟩ ∧
    (w.cell? ⟨g, off + i * 2, none⟩ = some (.string a.slot) ∧ w.cell? ⟨g, off + i * 2 + 1, none⟩ = some (.string a.who)) ∧
    (w.cell? ⟨g', off' + i * 2, none⟩ = some (.string b.slot) ∧ w.cell? ⟨g', off' + i * 2 + 1, none⟩ = some (.string b.who))) := Lib.hid fun i a b h1 h2 => by
   rcases fis_at hv with ⟨_, rfl⟩ | ⟨g, off, cap, e1, _, _, _, hc⟩
   ·simp at h1
   ·rcases fis_at hv' with ⟨_, rfl⟩ | ⟨g', off', cap', e2, _, _, _, hc'⟩
    ·simp at h2
    ·simp only [Value.slice.injEq] at e1 e2
     exact ⟨g, off, g', off', e1.1, e2.1, hc i a h1, hc' i b h2⟩
  obtain ⟨n, hn⟩ : ∃ n, xs.length = n := ⟨_, rfl⟩
  have hn' : ys.length = n := by omega
  have HN := Lib.hid hn; have HN' := Lib.hid hn'
  rw [hn, hn']; rw [hn] at ha
  clear hv hv' hl hn hn' hb; have e1 : ((n : Int) != (n : Int)) = false := by simp
  go_enter Tryz.func34, Tryz.ntmps34; go_wp2_with fail
  go_loopw [13] (fun i wr => ∃ k : Nat, k ≤ n ∧ i = .int .i64 k ∧ Hid (∀ (i : Nat) (a b : FiD), i < k → xs[i]? = some a → ys[i]? = some b → fieq a b = true) ∧ Below w.heap.size w wr) (fun i _ => n - (intOf i).toNat)
  case atStart => exact ⟨0, Nat.zero_le _, rfl, Lib.hid fun i _ _ h => by omega, Below.refl _ _⟩
  case round =>
   obtain ⟨k, hk, rfl, H0, hb⟩ := hrel; by_cases hlt : k < n
   ·obtain ⟨a, hai⟩ : ∃ a, xs[k]? = some a := ⟨_, List.getElem?_eq_getElem (show k < xs.length by have := HN.out; omega)⟩
    obtain ⟨b, hbi⟩ : ∃ b, ys[k]? = some b := ⟨_, List.getElem?_eq_getElem (show k < ys.length by have := HN'.out; omega)⟩
    obtain ⟨g, off, g', off', rfl, rfl, ⟨p0, p1⟩, q0, q1⟩ := Hc.out k a b hai hbi
    have a0 := below_cell hb p0; have a1 := below_cell hb p1; have b0 := below_cell hb q0; have b1 := below_cell hb q1; have w3 : (k : Int) < (n : Int) := by omega
    have hne := run_neqFi a b; have hgd := eqGuardFi; have Ha := Lib.hid hai; have Hb := Lib.hid hbi; clear hai hbi p0 p1 q0 q1; cases hf : fieq a b
    ·rw [hf] at hne
     have Hf := Lib.hid hf; clear hf; go_wp2_with fail
     go_quiet (fail)
     go_wp2_with fail
     go_ret
     exact ⟨ret_bool (HD.out k a b Ha.out Hb.out Hf.out).symm, below_drewNf hb _⟩
    ·rw [hf] at hne
     have H1 : Hid (∀ (i : Nat) (a b : FiD), i < k + 1 → xs[i]? = some a → ys[i]? = some b → fieq a b = true) := Lib.hid fun i x y hi hx hy => by
      rcases Nat.lt_succ_iff_lt_or_eq.1 hi with h | rfl
      ·exact H0.out i x y h hx hy
      ·rw [Ha.out] at hx; rw [Hb.out] at hy; cases hx; cases hy; exact hf
     clear hf; go_wp2_with fail
     go_quiet (fail)
     go_wp2_with fail
     go_roundw
     case rel => exact ⟨k + 1, by omega, by go_num, H1, below_drewNf hb _⟩
     case measure => simp [intOf]; omega
   ·obtain rfl : k = n := by omega
    go_wp2_with fail
    go_ret
    exact ⟨ret_bool (HT.out fun i a b hi => H0.out i a b (by rw [← HN.out]; exact hi)).symm, hb⟩
 ·have HR := Lib.hid (show decide (xs = ys) = false from decide_eq_false fun e => hl (by rw [e]))
  have e1 : ((xs.length : Int) != (ys.length : Int)) = true := by simp; omega
  have hl' : ¬ xs.length = ys.length := hl
  clear hv hv' hl; go_enter Tryz.func34, Tryz.ntmps34; go_wp2_with fail
  go_ret
  exact ⟨ret_bool HR.out.symm, Below.refl _ _⟩
end Go.Proofs.YtfcaokpadodijaaGreat
