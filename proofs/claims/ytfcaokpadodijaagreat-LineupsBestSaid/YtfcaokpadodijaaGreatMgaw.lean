/- Bits of small numbers, as the program's operators give them. Plain facts. -/
import Derived.Test.YtfcaokpadodijaaGreatMgav
import Derived.DeepKeys5
/- The reference's memo: a map from two numbers to a line-up. -/
namespace Go.Proofs.YtfcaokpadodijaaGreat
open Go.RowKit Go.Maps

def k2 (i u : Nat) : Value := .agg #[.int .i64 (i : Int), .int .i64 (u : Int)]
theorem laid_prog : laidOutB Tryz.prog = true := by kernel_rfl
theorem law2 : Keyed Tryz.prog 105 := Keyed.of_law (deep_law_gate laid_prog (of_decide_eq_true (by kernel_rfl)) (of_decide_eq_true (by kernel_rfl)) (by kernel_rfl) (by kernel_rfl))
/-- Every value reads as itself. -/
def heldR (v : Value) : Option (DataW Value × List MemPlace) := some (.held v, [])
/-- The memo in block b. -/
def Memo (w : World) (b n : Nat) (D : DataW Value) : Prop := w.ownsMap Tryz.prog 105 heldR b n D
theorem cells_2 : Tryz.prog.cellsOf 105 = 2 := by kernel_rfl
theorem cells_i : Tryz.prog.cellsOf 3 = 1 := by kernel_rfl
theorem keyT2 : Tryz.prog.keyType 105 = true := by kernel_rfl
theorem wf_nat (i : Nat) (hi : i ≤ 1000000) : (Lit.int .i64 (i : Int)).wf = true := by
 have e1 : IntKind.i64.min = -9223372036854775808 := by decide
 have e2 : IntKind.i64.max = 9223372036854775807 := by decide
 simp [Lit.wf, e1, e2]
 omega
theorem key2 (i u : Nat) (hi : i ≤ 1000000) (hu : u ≤ 1000000) : ∃ l, keyOf Tryz.prog 105 (k2 i u) = some l := by
 obtain ⟨n, hn⟩ : ∃ n, Tryz.prog.types.size + 1 = n + 2 := ⟨Tryz.prog.types.size - 1, by have : 1 ≤ Tryz.prog.types.size := of_decide_eq_true (by kernel_rfl); omega⟩
 have hf : (k2 i u).formed Tryz.prog 105 = true := by simp [k2, Value.formed, Tryz.underlying105, cells_2]
 have h1 := wf_nat i hi
 have h2 := wf_nat u hu
 unfold keyOf
 rw [Tryz.underlying105, keyT2, hf, hn]
 simp [k2, Value.cells, Program.keyLits, Tryz.underlying105, cells_2, cells_i, Tryz.underlying3, h1, h2, List.range, List.range.loop]
theorem k2_inj {i u i' u' : Nat} {l : Lit} (h : keyOf Tryz.prog 105 (k2 i u) = some l) (h' : keyOf Tryz.prog 105 (k2 i' u') = some l) : i = i' ∧ u = u' := by
 have := law2.inj h h'
 simp [k2] at this
 omega
end Go.Proofs.YtfcaokpadodijaaGreat
namespace Go.Proofs.YtfcaokpadodijaaGreat
open Go.RowKit

theorem bv_nat (n : Nat) (h : n < 2 ^ 64) : (BitVec.ofInt 64 (n : Int)).toNat = n := by
 rw [BitVec.ofInt_natCast, BitVec.toNat_ofNat]
 exact Nat.mod_eq_of_lt h
theorem and_nat (a b : Nat) (ha : a < 2 ^ 64) (hb : b < 2 ^ 64) : (BitVec.ofInt 64 (a : Int) &&& BitVec.ofInt 64 (b : Int)).toNat = a &&& b := by
 rw [BitVec.toNat_and, bv_nat a ha, bv_nat b hb]
theorem or_nat (a b : Nat) (ha : a < 2 ^ 64) (hb : b < 2 ^ 64) : (BitVec.ofInt 64 (a : Int) ||| BitVec.ofInt 64 (b : Int)).toNat = a ||| b := by
 rw [BitVec.toNat_or, bv_nat a ha, bv_nat b hb]
theorem bit_test (u k : Nat) : (((u >>> k) &&& 1 : Nat) = 1) ↔ u.testBit k = true := by
 unfold Nat.testBit
 rw [Nat.and_comm]
 have : (1 &&& u >>> k) = (u >>> k) % 2 := by rw [Nat.one_and_eq_mod_two]
 rw [this]
 simp
theorem shl_one (k : Nat) : (1 : Int) * 2 ^ k = ((1 <<< k : Nat) : Int) := by
 rw [Nat.one_shiftLeft]
 push_cast
 omega
end Go.Proofs.YtfcaokpadodijaaGreat
