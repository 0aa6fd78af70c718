/- CheckScorers. -/
import Derived.Test.YthlfjfmlmcoihaaGreatMgas
import Derived.Test.YthlfjfmlmcoihaaGreatMgaq
import Derived.Test.YthlfjfmlmcoihaaGreatMgar
import Derived.Test.YthlfjfmlmcoihaaGreatMgal
import Derived.Test.YthlfjfmlmcoihaaGreatMgak
import Derived.Test.YthlfjfmlmcoihaaGreatMgad
import Derived.Test.YthlfjfmlmcoihaaGreatMgav
namespace Go.Proofs.YthlfjfmlmcoihaaGreat
open Go.RowKit

/-- What is wrong with positions. -/
def poE (ks : List ByteArray) : Int := firstE [unlessE (decide (0 < ks.length)) 8, eachE ks.length 10 (risF ks)]
theorem poE_eq (ks : List ByteArray) : poE ks = lfE true ks := by
  unfold poE lfE
  cases ks with
  | nil => rfl
  | cons k ks =>
    have e : decide (0 < (k :: ks).length) = true := decide_eq_true (by simp)
    rw [e]
    simp [unlessE, firstE]
    exact fun h => h.symm
set_option maxHeartbeats 1000000 in
theorem positions_calls (lo : Nat) (v : Value) (ks : List ByteArray) (w : World) (hK : Strs w lo v ks) (hk : ∀ k ∈ ks, k.size ≤ 1000) (hn : ks.length ≤ 1000000) :
    Calls Tryz.prog 79 #[v] w (IntBelow (poE ks) w) := by
  have C2 := fun w' (hb : Below w.heap.size w w') => Lib.hid (rising_calls lo v ks 10 w' (hK.below hb) hk hn)
  obtain ⟨a, c, rfl⟩ := strs_shape hK
  clear hK hk
  go_enter Tryz.func79, Tryz.ntmps79
  go_wp2_with fail
  refine (unless_calls _ _ _).mono ?_
  rintro e w1 ⟨rfl, rfl⟩
  go_wp2_with fail
  refine (C2 _ (Below.refl _ _)).out.mono ?_
  rintro e w2 ⟨rfl, hb2⟩
  go_wp2_with fail
  refine (orE_calls _ 0 2 [unlessE (decide (0 < ks.length)) 8, eachE ks.length 10 (risF ks)] _ (by simp) (by exact nums2 _ _ _ _)).mono ?_
  rintro e w3 ⟨rfl, rfl⟩
  go_wp2_with fail
  go_ret
  exact ⟨rfl, below_step hb2 (below_alloc _ _)⟩
def scAt (xs : List ScD) (i : Nat) : ScD := xs[i]?.getD zeroC
theorem scAt_some {xs : List ScD} {i : Nat} {c : ScD} (h : xs[i]? = some c) : scAt xs i = c := by simp [scAt, h]
/-- What is wrong with scorer i. -/
def scF (xs : List ScD) (i : Nat) : Int :=
  firstE [unlessE (keyB (scAt xs i).who) 5, unlessE (decide (i = 0) || ltS (scAt xs (i - 1)).who (scAt xs i).who) 7, poE (scAt xs i).pos, wrongF (scAt xs i).num (scAt xs i).den 10000]
def ops_80_2 : Array Go.Oper := #[
  { dst := some 9, op := Go.Op.fieldAddr 83 (Go.Operand.tmp 4) 0, type := 0, pos := "lineup.go:31", after := #[], guard := none },
  { dst := some 10, op := Go.Op.load 9 (Go.Operand.tmp 9), type := 9, pos := "lineup.go:31", after := #[{ on := 0, ground := Go.Ground.data }], guard := none },
  { dst := some 11, op := Go.Op.call { callee := Go.Callee.value (Go.Operand.func 78), args := #[Go.Operand.tmp 10], argTypes := #[9] }, type := 4, pos := "lineup.go:32", after := #[{ on := 1, ground := Go.Ground.data }], guard := none },
  { dst := some 12, op := Go.Op.call { callee := Go.Callee.value (Go.Operand.func 54), args := #[Go.Operand.tmp 11, Go.Operand.const (Go.Value.int Go.IntKind.i64 5)], argTypes := #[4, 35] }, type := 35, pos := "lineup.go:32", after := #[{ on := 2, ground := Go.Ground.data }, { on := 2, ground := Go.Ground.chain }], guard := none },
  { dst := some 13, op := Go.Op.move (Go.Operand.tmp 0), type := 3, pos := "lineup.go:31", after := #[], guard := none },
  { dst := some 14, op := Go.Op.binOp Go.BinOp.eql 3 (Go.Operand.tmp 13) (Go.Operand.const (Go.Value.int Go.IntKind.i64 0)) 3, type := 4, pos := "lineup.go:31", after := #[{ on := 4, ground := Go.Ground.data }], guard := none },
  { dst := some 15, op := Go.Op.move (Go.Operand.tmp 14), type := 4, pos := "lineup.go:31", after := #[{ on := 5, ground := Go.Ground.data }, { on := 3, ground := Go.Ground.chain }], guard := none },
  { dst := some 16, op := Go.Op.load 28 (Go.Operand.tmp 1), type := 28, pos := "lineup.go:31", after := #[{ on := 6, ground := Go.Ground.guard }], guard := some (6, false) },
  { dst := some 17, op := Go.Op.move (Go.Operand.tmp 0), type := 3, pos := "lineup.go:31", after := #[{ on := 6, ground := Go.Ground.guard }], guard := some (6, false) },
  { dst := some 18, op := Go.Op.binOp Go.BinOp.sub 3 (Go.Operand.tmp 17) (Go.Operand.const (Go.Value.int Go.IntKind.i64 1)) 3, type := 3, pos := "lineup.go:31", after := #[{ on := 8, ground := Go.Ground.data }, { on := 6, ground := Go.Ground.guard }], guard := some (6, false) },
  { dst := some 19, op := Go.Op.indexAddr 28 (Go.Operand.tmp 16) (Go.Operand.tmp 18), type := 0, pos := "lineup.go:31", after := #[{ on := 7, ground := Go.Ground.data }, { on := 9, ground := Go.Ground.data }, { on := 6, ground := Go.Ground.guard }], guard := some (6, false) },
  { dst := some 20, op := Go.Op.fieldAddr 83 (Go.Operand.tmp 19) 0, type := 0, pos := "lineup.go:31", after := #[{ on := 10, ground := Go.Ground.data }, { on := 6, ground := Go.Ground.guard }], guard := some (6, false) },
  { dst := some 21, op := Go.Op.load 9 (Go.Operand.tmp 20), type := 9, pos := "lineup.go:31", after := #[{ on := 11, ground := Go.Ground.data }, { on := 6, ground := Go.Ground.guard }], guard := some (6, false) },
  { dst := some 22, op := Go.Op.fieldAddr 83 (Go.Operand.tmp 4) 0, type := 0, pos := "lineup.go:31", after := #[{ on := 6, ground := Go.Ground.guard }], guard := some (6, false) },
  { dst := some 23, op := Go.Op.load 9 (Go.Operand.tmp 22), type := 9, pos := "lineup.go:31", after := #[{ on := 13, ground := Go.Ground.data }, { on := 6, ground := Go.Ground.guard }], guard := some (6, false) },
  { dst := some 24, op := Go.Op.binOp Go.BinOp.lss 9 (Go.Operand.tmp 21) (Go.Operand.tmp 23) 9, type := 4, pos := "lineup.go:31", after := #[{ on := 12, ground := Go.Ground.data }, { on := 14, ground := Go.Ground.data }, { on := 6, ground := Go.Ground.guard }], guard := some (6, false) },
  { dst := some 25, op := Go.Op.pick (Go.Operand.tmp 15) (Go.Operand.const (Go.Value.bool true)) (Go.Operand.tmp 24), type := 4, pos := "lineup.go:31", after := #[{ on := 6, ground := Go.Ground.data }, { on := 15, ground := Go.Ground.data }], guard := none },
  { dst := some 26, op := Go.Op.call { callee := Go.Callee.value (Go.Operand.func 54), args := #[Go.Operand.tmp 25, Go.Operand.const (Go.Value.int Go.IntKind.i64 7)], argTypes := #[4, 35] }, type := 35, pos := "lineup.go:33", after := #[{ on := 16, ground := Go.Ground.data }, { on := 6, ground := Go.Ground.chain }], guard := none },
  { dst := some 27, op := Go.Op.fieldAddr 83 (Go.Operand.tmp 4) 1, type := 0, pos := "lineup.go:31", after := #[], guard := none },
  { dst := some 28, op := Go.Op.load 39 (Go.Operand.tmp 27), type := 39, pos := "lineup.go:31", after := #[{ on := 18, ground := Go.Ground.data }], guard := none },
  { dst := some 29, op := Go.Op.call { callee := Go.Callee.value (Go.Operand.func 79), args := #[Go.Operand.tmp 28], argTypes := #[39] }, type := 35, pos := "lineup.go:34", after := #[{ on := 19, ground := Go.Ground.data }, { on := 17, ground := Go.Ground.chain }], guard := none },
  { dst := some 30, op := Go.Op.fieldAddr 83 (Go.Operand.tmp 4) 2, type := 0, pos := "lineup.go:31", after := #[], guard := none },
  { dst := some 31, op := Go.Op.load 34 (Go.Operand.tmp 30), type := 34, pos := "lineup.go:31", after := #[{ on := 21, ground := Go.Ground.data }], guard := none },
  { dst := some 32, op := Go.Op.call { callee := Go.Callee.value (Go.Operand.func 81), args := #[Go.Operand.tmp 31, Go.Operand.const (Go.Value.int Go.IntKind.i64 10000)], argTypes := #[34, 3] }, type := 35, pos := "lineup.go:35", after := #[{ on := 22, ground := Go.Ground.data }, { on := 20, ground := Go.Ground.chain }], guard := none },
  { dst := some 33, op := Go.Op.buildSlice 95 4 #[(0, Go.Operand.tmp 12), (1, Go.Operand.tmp 26), (2, Go.Operand.tmp 29), (3, Go.Operand.tmp 32)], type := 95, pos := "lineup.go:31", after := #[{ on := 3, ground := Go.Ground.data }, { on := 17, ground := Go.Ground.data }, { on := 20, ground := Go.Ground.data }, { on := 23, ground := Go.Ground.data }], guard := none },
  { dst := some 34, op := Go.Op.call { callee := Go.Callee.value (Go.Operand.func 53), args := #[Go.Operand.tmp 33], argTypes := #[95] }, type := 35, pos := "lineup.go:31", after := #[{ on := 24, ground := Go.Ground.data }, { on := 23, ground := Go.Ground.chain }], guard := none },
  { dst := some 3, op := Go.Op.assign (Go.Operand.tmp 34), type := 35, pos := "lineup.go:31", after := #[{ on := 25, ground := Go.Ground.data }, { on := 25, ground := Go.Ground.chain }, { on := 0, ground := Go.Ground.phase }, { on := 1, ground := Go.Ground.phase }, { on := 2, ground := Go.Ground.phase }, { on := 3, ground := Go.Ground.phase }, { on := 4, ground := Go.Ground.phase }, { on := 5, ground := Go.Ground.phase }, { on := 6, ground := Go.Ground.phase }, { on := 7, ground := Go.Ground.phase }, { on := 8, ground := Go.Ground.phase }, { on := 9, ground := Go.Ground.phase }, { on := 10, ground := Go.Ground.phase }, { on := 11, ground := Go.Ground.phase }, { on := 12, ground := Go.Ground.phase }, { on := 13, ground := Go.Ground.phase }, { on := 14, ground := Go.Ground.phase }, { on := 15, ground := Go.Ground.phase }, { on := 16, ground := Go.Ground.phase }, { on := 17, ground := Go.Ground.phase }, { on := 18, ground := Go.Ground.phase }, { on := 19, ground := Go.Ground.phase }, { on := 20, ground := Go.Ground.phase }, { on := 21, ground := Go.Ground.phase }, { on := 22, ground := Go.Ground.phase }, { on := 23, ground := Go.Ground.phase }, { on := 24, ground := Go.Ground.phase }, { on := 25, ground := Go.Ground.phase }], guard := none }]
theorem ops_80_2_0 : ops_80_2[0]? = some ({ dst := some 9, op := Go.Op.fieldAddr 83 (Go.Operand.tmp 4) 0, type := 0, pos := "lineup.go:31", after := #[], guard := none } : Go.Oper) := rfl
theorem ops_80_2_1 : ops_80_2[1]? = some ({ dst := some 10, op := Go.Op.load 9 (Go.Operand.tmp 9), type := 9, pos := "lineup.go:31", after := #[{ on := 0, ground := Go.Ground.data }], guard := none } : Go.Oper) := rfl
theorem ops_80_2_2 : ops_80_2[2]? = some ({ dst := some 11, op := Go.Op.call { callee := Go.Callee.value (Go.Operand.func 78), args := #[Go.Operand.tmp 10], argTypes := #[9] }, type := 4, pos := "lineup.go:32", after := #[{ on := 1, ground := Go.Ground.data }], guard := none } : Go.Oper) := rfl
theorem ops_80_2_3 : ops_80_2[3]? = some ({ dst := some 12, op := Go.Op.call { callee := Go.Callee.value (Go.Operand.func 54), args := #[Go.Operand.tmp 11, Go.Operand.const (Go.Value.int Go.IntKind.i64 5)], argTypes := #[4, 35] }, type := 35, pos := "lineup.go:32", after := #[{ on := 2, ground := Go.Ground.data }, { on := 2, ground := Go.Ground.chain }], guard := none } : Go.Oper) := rfl
theorem ops_80_2_4 : ops_80_2[4]? = some ({ dst := some 13, op := Go.Op.move (Go.Operand.tmp 0), type := 3, pos := "lineup.go:31", after := #[], guard := none } : Go.Oper) := rfl
theorem ops_80_2_5 : ops_80_2[5]? = some ({ dst := some 14, op := Go.Op.binOp Go.BinOp.eql 3 (Go.Operand.tmp 13) (Go.Operand.const (Go.Value.int Go.IntKind.i64 0)) 3, type := 4, pos := "lineup.go:31", after := #[{ on := 4, ground := Go.Ground.data }], guard := none } : Go.Oper) := rfl
theorem ops_80_2_6 : ops_80_2[6]? = some ({ dst := some 15, op := Go.Op.move (Go.Operand.tmp 14), type := 4, pos := "lineup.go:31", after := #[{ on := 5, ground := Go.Ground.data }, { on := 3, ground := Go.Ground.chain }], guard := none } : Go.Oper) := rfl
theorem ops_80_2_7 : ops_80_2[7]? = some ({ dst := some 16, op := Go.Op.load 28 (Go.Operand.tmp 1), type := 28, pos := "lineup.go:31", after := #[{ on := 6, ground := Go.Ground.guard }], guard := some (6, false) } : Go.Oper) := rfl
theorem ops_80_2_8 : ops_80_2[8]? = some ({ dst := some 17, op := Go.Op.move (Go.Operand.tmp 0), type := 3, pos := "lineup.go:31", after := #[{ on := 6, ground := Go.Ground.guard }], guard := some (6, false) } : Go.Oper) := rfl
theorem ops_80_2_9 : ops_80_2[9]? = some ({ dst := some 18, op := Go.Op.binOp Go.BinOp.sub 3 (Go.Operand.tmp 17) (Go.Operand.const (Go.Value.int Go.IntKind.i64 1)) 3, type := 3, pos := "lineup.go:31", after := #[{ on := 8, ground := Go.Ground.data }, { on := 6, ground := Go.Ground.guard }], guard := some (6, false) } : Go.Oper) := rfl
theorem ops_80_2_10 : ops_80_2[10]? = some ({ dst := some 19, op := Go.Op.indexAddr 28 (Go.Operand.tmp 16) (Go.Operand.tmp 18), type := 0, pos := "lineup.go:31", after := #[{ on := 7, ground := Go.Ground.data }, { on := 9, ground := Go.Ground.data }, { on := 6, ground := Go.Ground.guard }], guard := some (6, false) } : Go.Oper) := rfl
theorem ops_80_2_11 : ops_80_2[11]? = some ({ dst := some 20, op := Go.Op.fieldAddr 83 (Go.Operand.tmp 19) 0, type := 0, pos := "lineup.go:31", after := #[{ on := 10, ground := Go.Ground.data }, { on := 6, ground := Go.Ground.guard }], guard := some (6, false) } : Go.Oper) := rfl
theorem ops_80_2_12 : ops_80_2[12]? = some ({ dst := some 21, op := Go.Op.load 9 (Go.Operand.tmp 20), type := 9, pos := "lineup.go:31", after := #[{ on := 11, ground := Go.Ground.data }, { on := 6, ground := Go.Ground.guard }], guard := some (6, false) } : Go.Oper) := rfl
theorem ops_80_2_13 : ops_80_2[13]? = some ({ dst := some 22, op := Go.Op.fieldAddr 83 (Go.Operand.tmp 4) 0, type := 0, pos := "lineup.go:31", after := #[{ on := 6, ground := Go.Ground.guard }], guard := some (6, false) } : Go.Oper) := rfl
theorem ops_80_2_14 : ops_80_2[14]? = some ({ dst := some 23, op := Go.Op.load 9 (Go.Operand.tmp 22), type := 9, pos := "lineup.go:31", after := #[{ on := 13, ground := Go.Ground.data }, { on := 6, ground := Go.Ground.guard }], guard := some (6, false) } : Go.Oper) := rfl
theorem ops_80_2_15 : ops_80_2[15]? = some ({ dst := some 24, op := Go.Op.binOp Go.BinOp.lss 9 (Go.Operand.tmp 21) (Go.Operand.tmp 23) 9, type := 4, pos := "lineup.go:31", after := #[{ on := 12, ground := Go.Ground.data }, { on := 14, ground := Go.Ground.data }, { on := 6, ground := Go.Ground.guard }], guard := some (6, false) } : Go.Oper) := rfl
theorem ops_80_2_16 : ops_80_2[16]? = some ({ dst := some 25, op := Go.Op.pick (Go.Operand.tmp 15) (Go.Operand.const (Go.Value.bool true)) (Go.Operand.tmp 24), type := 4, pos := "lineup.go:31", after := #[{ on := 6, ground := Go.Ground.data }, { on := 15, ground := Go.Ground.data }], guard := none } : Go.Oper) := rfl
theorem ops_80_2_17 : ops_80_2[17]? = some ({ dst := some 26, op := Go.Op.call { callee := Go.Callee.value (Go.Operand.func 54), args := #[Go.Operand.tmp 25, Go.Operand.const (Go.Value.int Go.IntKind.i64 7)], argTypes := #[4, 35] }, type := 35, pos := "lineup.go:33", after := #[{ on := 16, ground := Go.Ground.data }, { on := 6, ground := Go.Ground.chain }], guard := none } : Go.Oper) := rfl
theorem ops_80_2_18 : ops_80_2[18]? = some ({ dst := some 27, op := Go.Op.fieldAddr 83 (Go.Operand.tmp 4) 1, type := 0, pos := "lineup.go:31", after := #[], guard := none } : Go.Oper) := rfl
theorem ops_80_2_19 : ops_80_2[19]? = some ({ dst := some 28, op := Go.Op.load 39 (Go.Operand.tmp 27), type := 39, pos := "lineup.go:31", after := #[{ on := 18, ground := Go.Ground.data }], guard := none } : Go.Oper) := rfl
theorem ops_80_2_20 : ops_80_2[20]? = some ({ dst := some 29, op := Go.Op.call { callee := Go.Callee.value (Go.Operand.func 79), args := #[Go.Operand.tmp 28], argTypes := #[39] }, type := 35, pos := "lineup.go:34", after := #[{ on := 19, ground := Go.Ground.data }, { on := 17, ground := Go.Ground.chain }], guard := none } : Go.Oper) := rfl
theorem ops_80_2_21 : ops_80_2[21]? = some ({ dst := some 30, op := Go.Op.fieldAddr 83 (Go.Operand.tmp 4) 2, type := 0, pos := "lineup.go:31", after := #[], guard := none } : Go.Oper) := rfl
theorem ops_80_2_22 : ops_80_2[22]? = some ({ dst := some 31, op := Go.Op.load 34 (Go.Operand.tmp 30), type := 34, pos := "lineup.go:31", after := #[{ on := 21, ground := Go.Ground.data }], guard := none } : Go.Oper) := rfl
theorem ops_80_2_23 : ops_80_2[23]? = some ({ dst := some 32, op := Go.Op.call { callee := Go.Callee.value (Go.Operand.func 81), args := #[Go.Operand.tmp 31, Go.Operand.const (Go.Value.int Go.IntKind.i64 10000)], argTypes := #[34, 3] }, type := 35, pos := "lineup.go:35", after := #[{ on := 22, ground := Go.Ground.data }, { on := 20, ground := Go.Ground.chain }], guard := none } : Go.Oper) := rfl
theorem ops_80_2_24 : ops_80_2[24]? = some ({ dst := some 33, op := Go.Op.buildSlice 95 4 #[(0, Go.Operand.tmp 12), (1, Go.Operand.tmp 26), (2, Go.Operand.tmp 29), (3, Go.Operand.tmp 32)], type := 95, pos := "lineup.go:31", after := #[{ on := 3, ground := Go.Ground.data }, { on := 17, ground := Go.Ground.data }, { on := 20, ground := Go.Ground.data }, { on := 23, ground := Go.Ground.data }], guard := none } : Go.Oper) := rfl
theorem ops_80_2_25 : ops_80_2[25]? = some ({ dst := some 34, op := Go.Op.call { callee := Go.Callee.value (Go.Operand.func 53), args := #[Go.Operand.tmp 33], argTypes := #[95] }, type := 35, pos := "lineup.go:31", after := #[{ on := 24, ground := Go.Ground.data }, { on := 23, ground := Go.Ground.chain }], guard := none } : Go.Oper) := rfl
theorem ops_80_2_26 : ops_80_2[26]? = some ({ dst := some 3, op := Go.Op.assign (Go.Operand.tmp 34), type := 35, pos := "lineup.go:31", after := #[{ on := 25, ground := Go.Ground.data }, { on := 25, ground := Go.Ground.chain }, { on := 0, ground := Go.Ground.phase }, { on := 1, ground := Go.Ground.phase }, { on := 2, ground := Go.Ground.phase }, { on := 3, ground := Go.Ground.phase }, { on := 4, ground := Go.Ground.phase }, { on := 5, ground := Go.Ground.phase }, { on := 6, ground := Go.Ground.phase }, { on := 7, ground := Go.Ground.phase }, { on := 8, ground := Go.Ground.phase }, { on := 9, ground := Go.Ground.phase }, { on := 10, ground := Go.Ground.phase }, { on := 11, ground := Go.Ground.phase }, { on := 12, ground := Go.Ground.phase }, { on := 13, ground := Go.Ground.phase }, { on := 14, ground := Go.Ground.phase }, { on := 15, ground := Go.Ground.phase }, { on := 16, ground := Go.Ground.phase }, { on := 17, ground := Go.Ground.phase }, { on := 18, ground := Go.Ground.phase }, { on := 19, ground := Go.Ground.phase }, { on := 20, ground := Go.Ground.phase }, { on := 21, ground := Go.Ground.phase }, { on := 22, ground := Go.Ground.phase }, { on := 23, ground := Go.Ground.phase }, { on := 24, ground := Go.Ground.phase }, { on := 25, ground := Go.Ground.phase }], guard := none } : Go.Oper) := rfl
theorem ops_80_2_ns : Go.Region.noSelect ops_80_2 = true := by kernel_rfl
set_option maxRecDepth 100000 in
set_option maxHeartbeats 16000000 in
theorem checkScorers1_calls (b g off cap i lo : Nat) (xs : List ScD) (c : ScD) (w : World) (hi : xs[i]? = some c) (hs : SmallSc c) (hn : xs.length ≤ 1000000)
    (h1 : w.cell? ⟨b, 0, none⟩ = some (.slice (some ⟨g, off, none⟩) xs.length cap)) (hR : Scs w lo (.slice (some ⟨g, off, none⟩) xs.length cap) xs) :
    Calls Tryz.prog 80 #[.int .i64 (i : Int), .pointer (some ⟨b, 0, none⟩)] w (IntBelow (scF xs i) w) := by
  have hlt : i < xs.length := (List.getElem?_eq_some_iff.1 hi).1
  rcases scs_at hR with ⟨h, _⟩ | ⟨g', off', cap', e, _, _, _, hcell⟩
  · cases h
  simp only [Value.slice.injEq, Option.some.injEq, Addr.mk.injEq, and_true, true_and] at e
  obtain ⟨⟨rfl, rfl⟩, rfl⟩ := e
  obtain ⟨pv, q0, q1, q2, q3, q4, hpv⟩ := hcell i c hi
  obtain ⟨pa, pc, rfl⟩ := strs_shape hpv
  obtain ⟨W, hW⟩ : ∃ W, W = w.alloc (.cells #[.string c.who, .slice pa c.pos.length pc, .int .i64 c.num, .int .i64 c.den, .bool c.played] 83) := ⟨_, rfl⟩
  have hwW : Below w.heap.size w W := by rw [hW]; exact below_alloc w _
  have hx : W.heap[w.heap.size]? = some (.cells #[.string c.who, .slice pa c.pos.length pc, .int .i64 c.num, .int .i64 c.den, .bool c.played] 83 (0, 0)) := by rw [hW]; exact heap_alloc_new w _
  have x0 := cell_at hx 0 rfl
  have x1 := cell_at hx 1 rfl
  have x2 := cell_at hx 2 rfl
  have x3 := cell_at hx 3 rfl
  have c1 := below_cell hwW h1
  have hb0 := (Below.refl W.heap.size W).drew
  obtain ⟨hs1, hs2, hs3, hs4, hs5⟩ := hs
  have H4 := Lib.hid hs4
  have H5 := Lib.hid hs5
  have HP := Lib.hid (show ∀ w', Below W.heap.size W w' → Calls Tryz.prog 79 #[.slice pa c.pos.length pc] w' (IntBelow (poE c.pos) w') from fun w' hb => positions_calls lo _ c.pos w' ((hpv.below hwW).below hb) hs3 (by omega))
  have HS0 := Lib.hid (show ∀ w', Below W.heap.size W w' → (Below W.heap.size W w' ∧ w'.cell? ⟨b, 0, none⟩ = some (.slice (some ⟨g, off, none⟩) xs.length cap) ∧ w'.cell? ⟨w.heap.size, 0, none⟩ = some (.string c.who) ∧ w'.cell? ⟨w.heap.size, 1, none⟩ = some (.slice pa c.pos.length pc) ∧ w'.cell? ⟨w.heap.size, 2, none⟩ = some (.int .i64 c.num) ∧ w'.cell? ⟨w.heap.size, 3, none⟩ = some (.int .i64 c.den)) from fun w' hb => ⟨hb, below_cell hb c1, below_cell hb x0, below_cell hb x1, below_cell hb x2, below_cell hb x3⟩)
  clear hs2 hs3 hs4 hs5 hx hpv
  by_cases hz : i = 0
  · have e0 : ((i : Int) == 0) = true := by rw [beq_iff_eq]; omega
    have HS := HS0
    have Hr := Lib.hid (show scF xs i = firstE [unlessE (keyB c.who) 5, unlessE true 7, poE c.pos, wrongF c.num c.den 10000] by rw [scF, scAt_some hi]; simp [hz])
    clear hi hz c1 x0 x1 x2 x3 hR hcell HS0
    go_enter Tryz.func80, Tryz.ntmps80
    go_upto_region 2 with fail
    rw [← hW]
    clear hW
    show Code.wp _ (Code.region 2 ops_80_2 true) _ _ _
    refine region_start 27 (fun w' => Below W.heap.size W w' ∧ w'.cell? ⟨b, 0, none⟩ = some (.slice (some ⟨g, off, none⟩) xs.length cap) ∧ w'.cell? ⟨w.heap.size, 0, none⟩ = some (.string c.who) ∧ w'.cell? ⟨w.heap.size, 1, none⟩ = some (.slice pa c.pos.length pc) ∧ w'.cell? ⟨w.heap.size, 2, none⟩ = some (.int .i64 c.num) ∧ w'.cell? ⟨w.heap.size, 3, none⟩ = some (.int .i64 c.den)) (by kernel_rfl) rfl ?_ (fun hHeld => ?_)
    · (exact HS.out _ (by first | assumption | exact hHeld.1 | exact below_step hHeld.1 (by assumption) | exact below_step hHeld.1 (below_alloc _ _)))
    refine take_to 0 9 #[true, false, false, false, false, false, false, false, false, false, false, false, false, false, false, false, false, false, false, false, false, false, false, false, false, false, false] (v := ?_) ops_80_2_0 rfl ops_80_2_ns (by kernel_rfl) (by kernel_rfl) (fun _ _ _ h => h) (by rfl) ?y01 (by assumption) ?_
    case y01 =>
      intro w hSw
      try dsimp only at hSw
      go_simp
      try with_reducible rfl
    simp only [List.set_cons_zero, List.set_cons_succ]
    refine take_to 1 10 #[true, true, false, false, false, false, false, false, false, false, false, false, false, false, false, false, false, false, false, false, false, false, false, false, false, false, false] (v := ?_) ops_80_2_1 rfl ops_80_2_ns (by kernel_rfl) (by kernel_rfl) (fun _ _ _ h => h) (by rfl) ?y11 (by assumption) ?_
    case y11 =>
      intro w hSw
      try dsimp only at hSw
      go_simp
      try with_reducible rfl
    simp only [List.set_cons_zero, List.set_cons_succ]
    refine take_to 4 13 #[true, true, false, false, true, false, false, false, false, false, false, false, false, false, false, false, false, false, false, false, false, false, false, false, false, false, false] (v := ?_) ops_80_2_4 rfl ops_80_2_ns (by kernel_rfl) (by kernel_rfl) (fun _ _ _ h => h) (by rfl) ?y41 (by assumption) ?_
    case y41 =>
      intro w hSw
      try dsimp only at hSw
      go_simp
      try with_reducible rfl
    simp only [List.set_cons_zero, List.set_cons_succ]
    refine take_to 5 14 #[true, true, false, false, true, true, false, false, false, false, false, false, false, false, false, false, false, false, false, false, false, false, false, false, false, false, false] (v := ?_) ops_80_2_5 rfl ops_80_2_ns (by kernel_rfl) (by kernel_rfl) (fun _ _ _ h => h) (by rfl) ?y51 (by assumption) ?_
    case y51 =>
      intro w hSw
      try dsimp only at hSw
      go_simp
      try with_reducible rfl
    simp only [List.set_cons_zero, List.set_cons_succ]
    refine take_to 18 27 #[true, true, false, false, true, true, false, false, false, false, false, false, false, false, false, false, false, false, true, false, false, false, false, false, false, false, false] (v := ?_) ops_80_2_18 rfl ops_80_2_ns (by kernel_rfl) (by kernel_rfl) (fun _ _ _ h => h) (by rfl) ?y181 (by assumption) ?_
    case y181 =>
      intro w hSw
      try dsimp only at hSw
      go_simp
      try with_reducible rfl
    simp only [List.set_cons_zero, List.set_cons_succ]
    refine take_to 19 28 #[true, true, false, false, true, true, false, false, false, false, false, false, false, false, false, false, false, false, true, true, false, false, false, false, false, false, false] (v := ?_) ops_80_2_19 rfl ops_80_2_ns (by kernel_rfl) (by kernel_rfl) (fun _ _ _ h => h) (by rfl) ?y191 (by assumption) ?_
    case y191 =>
      intro w hSw
      try dsimp only at hSw
      go_simp
      try with_reducible rfl
    simp only [List.set_cons_zero, List.set_cons_succ]
    refine take_to 21 30 #[true, true, false, false, true, true, false, false, false, false, false, false, false, false, false, false, false, false, true, true, false, true, false, false, false, false, false] (v := ?_) ops_80_2_21 rfl ops_80_2_ns (by kernel_rfl) (by kernel_rfl) (fun _ _ _ h => h) (by rfl) ?y211 (by assumption) ?_
    case y211 =>
      intro w hSw
      try dsimp only at hSw
      go_simp
      try with_reducible rfl
    simp only [List.set_cons_zero, List.set_cons_succ]
    refine take_to 22 31 #[true, true, false, false, true, true, false, false, false, false, false, false, false, false, false, false, false, false, true, true, false, true, true, false, false, false, false] (v := ?_) ops_80_2_22 rfl ops_80_2_ns (by kernel_rfl) (by kernel_rfl) (fun _ _ _ h => h) (by rfl) ?y221 (by assumption) ?_
    case y221 =>
      intro w hSw
      try dsimp only at hSw
      go_simp
      try with_reducible rfl
    simp only [List.set_cons_zero, List.set_cons_succ]
    refine run_to 2 #[true, true, true, false, true, true, false, false, false, false, false, false, false, false, false, false, false, false, true, true, false, true, true, false, false, false, false] ops_80_2_2 (by kernel_rfl) (by kernel_rfl) (by rfl) (fun K hK => ?_)
    go_simp
    refine (key_calls _ _ (by omega)).mono ?_
    rintro e w' ⟨rfl, rfl⟩
    go_wp2_with fail
    refine hK.out _ _ ?_ (fun hHeld => ?_)
    · (exact HS.out _ (by first | assumption | exact hHeld.1 | exact below_step hHeld.1 (by assumption) | exact below_step hHeld.1 (below_alloc _ _)))
    clear hK K
    try simp only [Act.put, List.setIfInBounds_toArray, List.set_cons_zero, List.set_cons_succ]
    refine run_to 3 #[true, true, true, true, true, true, false, false, false, false, false, false, false, false, false, false, false, false, true, true, false, true, true, false, false, false, false] ops_80_2_3 (by kernel_rfl) (by kernel_rfl) (by rfl) (fun K hK => ?_)
    go_simp
    refine (unless_calls _ _ _).mono ?_
    rintro e w' ⟨rfl, rfl⟩
    go_wp2_with fail
    refine hK.out _ _ ?_ (fun hHeld => ?_)
    · (exact HS.out _ (by first | assumption | exact hHeld.1 | exact below_step hHeld.1 (by assumption) | exact below_step hHeld.1 (below_alloc _ _)))
    clear hK K
    try simp only [Act.put, List.setIfInBounds_toArray, List.set_cons_zero, List.set_cons_succ]
    refine take_to 6 15 #[true, true, true, true, true, true, true, false, false, false, false, false, false, false, false, false, false, false, true, true, false, true, true, false, false, false, false] (v := ?_) ops_80_2_6 rfl ops_80_2_ns (by kernel_rfl) (by kernel_rfl) (fun _ _ _ h => h) (by rfl) ?y61 (by assumption) ?_
    case y61 =>
      intro w hSw
      try dsimp only at hSw
      go_simp
      try with_reducible rfl
    simp only [List.set_cons_zero, List.set_cons_succ]
    refine skip_to 7 16 #[true, true, true, true, true, true, true, true, false, false, false, false, false, false, false, false, false, false, true, true, false, true, true, false, false, false, false] ops_80_2_7 rfl ops_80_2_ns (by kernel_rfl) (by kernel_rfl) (fun _ _ _ h => h) (by rfl) (by assumption) ?_
    simp only [List.set_cons_zero, List.set_cons_succ]
    refine skip_to 8 17 #[true, true, true, true, true, true, true, true, true, false, false, false, false, false, false, false, false, false, true, true, false, true, true, false, false, false, false] ops_80_2_8 rfl ops_80_2_ns (by kernel_rfl) (by kernel_rfl) (fun _ _ _ h => h) (by rfl) (by assumption) ?_
    simp only [List.set_cons_zero, List.set_cons_succ]
    refine skip_to 9 18 #[true, true, true, true, true, true, true, true, true, true, false, false, false, false, false, false, false, false, true, true, false, true, true, false, false, false, false] ops_80_2_9 rfl ops_80_2_ns (by kernel_rfl) (by kernel_rfl) (fun _ _ _ h => h) (by rfl) (by assumption) ?_
    simp only [List.set_cons_zero, List.set_cons_succ]
    refine skip_to 10 19 #[true, true, true, true, true, true, true, true, true, true, true, false, false, false, false, false, false, false, true, true, false, true, true, false, false, false, false] ops_80_2_10 rfl ops_80_2_ns (by kernel_rfl) (by kernel_rfl) (fun _ _ _ h => h) (by rfl) (by assumption) ?_
    simp only [List.set_cons_zero, List.set_cons_succ]
    refine skip_to 11 20 #[true, true, true, true, true, true, true, true, true, true, true, true, false, false, false, false, false, false, true, true, false, true, true, false, false, false, false] ops_80_2_11 rfl ops_80_2_ns (by kernel_rfl) (by kernel_rfl) (fun _ _ _ h => h) (by rfl) (by assumption) ?_
    simp only [List.set_cons_zero, List.set_cons_succ]
    refine skip_to 12 21 #[true, true, true, true, true, true, true, true, true, true, true, true, true, false, false, false, false, false, true, true, false, true, true, false, false, false, false] ops_80_2_12 rfl ops_80_2_ns (by kernel_rfl) (by kernel_rfl) (fun _ _ _ h => h) (by rfl) (by assumption) ?_
    simp only [List.set_cons_zero, List.set_cons_succ]
    refine skip_to 13 22 #[true, true, true, true, true, true, true, true, true, true, true, true, true, true, false, false, false, false, true, true, false, true, true, false, false, false, false] ops_80_2_13 rfl ops_80_2_ns (by kernel_rfl) (by kernel_rfl) (fun _ _ _ h => h) (by rfl) (by assumption) ?_
    simp only [List.set_cons_zero, List.set_cons_succ]
    refine skip_to 14 23 #[true, true, true, true, true, true, true, true, true, true, true, true, true, true, true, false, false, false, true, true, false, true, true, false, false, false, false] ops_80_2_14 rfl ops_80_2_ns (by kernel_rfl) (by kernel_rfl) (fun _ _ _ h => h) (by rfl) (by assumption) ?_
    simp only [List.set_cons_zero, List.set_cons_succ]
    refine skip_to 15 24 #[true, true, true, true, true, true, true, true, true, true, true, true, true, true, true, true, false, false, true, true, false, true, true, false, false, false, false] ops_80_2_15 rfl ops_80_2_ns (by kernel_rfl) (by kernel_rfl) (fun _ _ _ h => h) (by rfl) (by assumption) ?_
    simp only [List.set_cons_zero, List.set_cons_succ]
    refine take_to 16 25 #[true, true, true, true, true, true, true, true, true, true, true, true, true, true, true, true, true, false, true, true, false, true, true, false, false, false, false] (v := ?_) ops_80_2_16 rfl ops_80_2_ns (by kernel_rfl) (by kernel_rfl) (fun _ _ _ h => h) (by rfl) ?y161 (by assumption) ?_
    case y161 =>
      intro w hSw
      try dsimp only at hSw
      go_simp
      try with_reducible rfl
    simp only [List.set_cons_zero, List.set_cons_succ]
    refine run_to 17 #[true, true, true, true, true, true, true, true, true, true, true, true, true, true, true, true, true, true, true, true, false, true, true, false, false, false, false] ops_80_2_17 (by kernel_rfl) (by kernel_rfl) (by rfl) (fun K hK => ?_)
    go_simp
    refine (unless_calls _ _ _).mono ?_
    rintro e w' ⟨rfl, rfl⟩
    go_wp2_with fail
    refine hK.out _ _ ?_ (fun hHeld => ?_)
    · (exact HS.out _ (by first | assumption | exact hHeld.1 | exact below_step hHeld.1 (by assumption) | exact below_step hHeld.1 (below_alloc _ _)))
    clear hK K
    try simp only [Act.put, List.setIfInBounds_toArray, List.set_cons_zero, List.set_cons_succ]
    refine run_to 20 #[true, true, true, true, true, true, true, true, true, true, true, true, true, true, true, true, true, true, true, true, true, true, true, false, false, false, false] ops_80_2_20 (by kernel_rfl) (by kernel_rfl) (by rfl) (fun K hK => ?_)
    go_simp
    refine (HP.out _ hHeld.1).mono ?_
    rintro e w' ⟨rfl, hb⟩
    go_wp2_with fail
    refine hK.out _ _ ?_ (fun hHeld => ?_)
    · (exact HS.out _ (by first | assumption | exact hHeld.1 | exact below_step hHeld.1 (by assumption) | exact below_step hHeld.1 (below_alloc _ _)))
    clear hK K
    try simp only [Act.put, List.setIfInBounds_toArray, List.set_cons_zero, List.set_cons_succ]
    refine run_to 23 #[true, true, true, true, true, true, true, true, true, true, true, true, true, true, true, true, true, true, true, true, true, true, true, true, false, false, false] ops_80_2_23 (by kernel_rfl) (by kernel_rfl) (by rfl) (fun K hK => ?_)
    go_simp
    refine (wrong_calls c.num c.den _ H4.out H5.out).mono ?_
    rintro e w' ⟨rfl, hb⟩
    go_wp2_with fail
    refine hK.out _ _ ?_ (fun hHeld => ?_)
    · (exact HS.out _ (by first | assumption | exact hHeld.1 | exact below_step hHeld.1 (by assumption) | exact below_step hHeld.1 (below_alloc _ _)))
    clear hK K
    try simp only [Act.put, List.setIfInBounds_toArray, List.set_cons_zero, List.set_cons_succ]
    refine run_to 24 #[true, true, true, true, true, true, true, true, true, true, true, true, true, true, true, true, true, true, true, true, true, true, true, true, true, false, false] ops_80_2_24 (by kernel_rfl) (by kernel_rfl) (by rfl) (fun K hK => ?_)
    go_simp
    refine hK.out _ _ ?_ (fun hHeld => ?_)
    · (exact HS.out _ (by first | assumption | exact hHeld.1 | exact below_step hHeld.1 (by assumption) | exact below_step hHeld.1 (below_alloc _ _)))
    clear hK K
    try simp only [Act.put, List.setIfInBounds_toArray, List.set_cons_zero, List.set_cons_succ]
    refine run_to 25 #[true, true, true, true, true, true, true, true, true, true, true, true, true, true, true, true, true, true, true, true, true, true, true, true, true, true, false] ops_80_2_25 (by kernel_rfl) (by kernel_rfl) (by rfl) (fun K hK => ?_)
    go_simp
    refine (orE_calls _ 0 4 [unlessE (keyB c.who) 5, unlessE true 7, poE c.pos, wrongF c.num c.den 10000] _ (by simp) (by exact nums4' _ _ _ _ _ _)).mono ?_
    rintro e w' ⟨rfl, rfl⟩
    go_wp2_with fail
    refine hK.out _ _ ?_ (fun hHeld => ?_)
    · (exact HS.out _ (by first | assumption | exact hHeld.1 | exact below_step hHeld.1 (by assumption) | exact below_step hHeld.1 (below_alloc _ _)))
    clear hK K
    try simp only [Act.put, List.setIfInBounds_toArray, List.set_cons_zero, List.set_cons_succ]
    refine take_to 26 3 #[true, true, true, true, true, true, true, true, true, true, true, true, true, true, true, true, true, true, true, true, true, true, true, true, true, true, true] (v := ?_) ops_80_2_26 rfl ops_80_2_ns (by kernel_rfl) (by kernel_rfl) (fun _ _ _ h => h) (by rfl) ?y261 (by assumption) ?_
    case y261 =>
      intro w hSw
      try dsimp only at hSw
      go_simp
      try with_reducible rfl
    simp only [List.set_cons_zero, List.set_cons_succ]
    refine wpAnyH_done (by kernel_rfl) ?_ _
    go_wp2_with fail
    go_ret
    exact ⟨ret_int Hr.out.symm, below_step hwW hHeld.1⟩
  · obtain ⟨sp, hsp⟩ : ∃ sp, xs[i - 1]? = some sp := ⟨_, List.getElem?_eq_getElem (show i - 1 < xs.length by omega)⟩
    obtain ⟨_, r0, -⟩ := hcell (i - 1) sp hsp
    have r0W := below_cell hwW r0
    have e0 : ((i : Int) == 0) = false := by rw [beq_eq_false_iff_ne]; omega
    have w1 : IntKind.i64.wrap ((i : Int) - 1) = ((i - 1 : Nat) : Int) := by rw [IntWalk.i64_in _ (by omega)]; omega
    have w2 : ((i - 1 : Nat) : Int) < (xs.length : Int) := by omega
    have HS := Lib.hid (show ∀ w', Below W.heap.size W w' → (Below W.heap.size W w' ∧ w'.cell? ⟨b, 0, none⟩ = some (.slice (some ⟨g, off, none⟩) xs.length cap) ∧ w'.cell? ⟨w.heap.size, 0, none⟩ = some (.string c.who) ∧ w'.cell? ⟨w.heap.size, 1, none⟩ = some (.slice pa c.pos.length pc) ∧ w'.cell? ⟨w.heap.size, 2, none⟩ = some (.int .i64 c.num) ∧ w'.cell? ⟨w.heap.size, 3, none⟩ = some (.int .i64 c.den) ∧ w'.cell? ⟨g, off + (i - 1) * 5, none⟩ = some (.string sp.who)) from fun w' hb => ⟨hb, below_cell hb c1, below_cell hb x0, below_cell hb x1, below_cell hb x2, below_cell hb x3, below_cell hb r0W⟩)
    have Hr := Lib.hid (show scF xs i = firstE [unlessE (keyB c.who) 5, unlessE (ltS sp.who c.who) 7, poE c.pos, wrongF c.num c.den 10000] by rw [scF, scAt_some hi, scAt_some hsp]; simp [hz])
    clear hi hz c1 x0 x1 x2 x3 hR hcell HS0 r0 r0W hsp
    go_enter Tryz.func80, Tryz.ntmps80
    go_upto_region 2 with fail
    rw [← hW]
    clear hW
    show Code.wp _ (Code.region 2 ops_80_2 true) _ _ _
    refine region_start 27 (fun w' => Below W.heap.size W w' ∧ w'.cell? ⟨b, 0, none⟩ = some (.slice (some ⟨g, off, none⟩) xs.length cap) ∧ w'.cell? ⟨w.heap.size, 0, none⟩ = some (.string c.who) ∧ w'.cell? ⟨w.heap.size, 1, none⟩ = some (.slice pa c.pos.length pc) ∧ w'.cell? ⟨w.heap.size, 2, none⟩ = some (.int .i64 c.num) ∧ w'.cell? ⟨w.heap.size, 3, none⟩ = some (.int .i64 c.den) ∧ w'.cell? ⟨g, off + (i - 1) * 5, none⟩ = some (.string sp.who)) (by kernel_rfl) rfl ?_ (fun hHeld => ?_)
    · (exact HS.out _ (by first | assumption | exact hHeld.1 | exact below_step hHeld.1 (by assumption) | exact below_step hHeld.1 (below_alloc _ _)))
    refine take_to 0 9 #[true, false, false, false, false, false, false, false, false, false, false, false, false, false, false, false, false, false, false, false, false, false, false, false, false, false, false] (v := ?_) ops_80_2_0 rfl ops_80_2_ns (by kernel_rfl) (by kernel_rfl) (fun _ _ _ h => h) (by rfl) ?y00 (by assumption) ?_
    case y00 =>
      intro w hSw
      try dsimp only at hSw
      go_simp
      try with_reducible rfl
    simp only [List.set_cons_zero, List.set_cons_succ]
    refine take_to 1 10 #[true, true, false, false, false, false, false, false, false, false, false, false, false, false, false, false, false, false, false, false, false, false, false, false, false, false, false] (v := ?_) ops_80_2_1 rfl ops_80_2_ns (by kernel_rfl) (by kernel_rfl) (fun _ _ _ h => h) (by rfl) ?y10 (by assumption) ?_
    case y10 =>
      intro w hSw
      try dsimp only at hSw
      go_simp
      try with_reducible rfl
    simp only [List.set_cons_zero, List.set_cons_succ]
    refine take_to 4 13 #[true, true, false, false, true, false, false, false, false, false, false, false, false, false, false, false, false, false, false, false, false, false, false, false, false, false, false] (v := ?_) ops_80_2_4 rfl ops_80_2_ns (by kernel_rfl) (by kernel_rfl) (fun _ _ _ h => h) (by rfl) ?y40 (by assumption) ?_
    case y40 =>
      intro w hSw
      try dsimp only at hSw
      go_simp
      try with_reducible rfl
    simp only [List.set_cons_zero, List.set_cons_succ]
    refine take_to 5 14 #[true, true, false, false, true, true, false, false, false, false, false, false, false, false, false, false, false, false, false, false, false, false, false, false, false, false, false] (v := ?_) ops_80_2_5 rfl ops_80_2_ns (by kernel_rfl) (by kernel_rfl) (fun _ _ _ h => h) (by rfl) ?y50 (by assumption) ?_
    case y50 =>
      intro w hSw
      try dsimp only at hSw
      go_simp
      try with_reducible rfl
    simp only [List.set_cons_zero, List.set_cons_succ]
    refine take_to 18 27 #[true, true, false, false, true, true, false, false, false, false, false, false, false, false, false, false, false, false, true, false, false, false, false, false, false, false, false] (v := ?_) ops_80_2_18 rfl ops_80_2_ns (by kernel_rfl) (by kernel_rfl) (fun _ _ _ h => h) (by rfl) ?y180 (by assumption) ?_
    case y180 =>
      intro w hSw
      try dsimp only at hSw
      go_simp
      try with_reducible rfl
    simp only [List.set_cons_zero, List.set_cons_succ]
    refine take_to 19 28 #[true, true, false, false, true, true, false, false, false, false, false, false, false, false, false, false, false, false, true, true, false, false, false, false, false, false, false] (v := ?_) ops_80_2_19 rfl ops_80_2_ns (by kernel_rfl) (by kernel_rfl) (fun _ _ _ h => h) (by rfl) ?y190 (by assumption) ?_
    case y190 =>
      intro w hSw
      try dsimp only at hSw
      go_simp
      try with_reducible rfl
    simp only [List.set_cons_zero, List.set_cons_succ]
    refine take_to 21 30 #[true, true, false, false, true, true, false, false, false, false, false, false, false, false, false, false, false, false, true, true, false, true, false, false, false, false, false] (v := ?_) ops_80_2_21 rfl ops_80_2_ns (by kernel_rfl) (by kernel_rfl) (fun _ _ _ h => h) (by rfl) ?y210 (by assumption) ?_
    case y210 =>
      intro w hSw
      try dsimp only at hSw
      go_simp
      try with_reducible rfl
    simp only [List.set_cons_zero, List.set_cons_succ]
    refine take_to 22 31 #[true, true, false, false, true, true, false, false, false, false, false, false, false, false, false, false, false, false, true, true, false, true, true, false, false, false, false] (v := ?_) ops_80_2_22 rfl ops_80_2_ns (by kernel_rfl) (by kernel_rfl) (fun _ _ _ h => h) (by rfl) ?y220 (by assumption) ?_
    case y220 =>
      intro w hSw
      try dsimp only at hSw
      go_simp
      try with_reducible rfl
    simp only [List.set_cons_zero, List.set_cons_succ]
    refine run_to 2 #[true, true, true, false, true, true, false, false, false, false, false, false, false, false, false, false, false, false, true, true, false, true, true, false, false, false, false] ops_80_2_2 (by kernel_rfl) (by kernel_rfl) (by rfl) (fun K hK => ?_)
    go_simp
    refine (key_calls _ _ (by omega)).mono ?_
    rintro e w' ⟨rfl, rfl⟩
    go_wp2_with fail
    refine hK.out _ _ ?_ (fun hHeld => ?_)
    · (exact HS.out _ (by first | assumption | exact hHeld.1 | exact below_step hHeld.1 (by assumption) | exact below_step hHeld.1 (below_alloc _ _)))
    clear hK K
    try simp only [Act.put, List.setIfInBounds_toArray, List.set_cons_zero, List.set_cons_succ]
    refine run_to 3 #[true, true, true, true, true, true, false, false, false, false, false, false, false, false, false, false, false, false, true, true, false, true, true, false, false, false, false] ops_80_2_3 (by kernel_rfl) (by kernel_rfl) (by rfl) (fun K hK => ?_)
    go_simp
    refine (unless_calls _ _ _).mono ?_
    rintro e w' ⟨rfl, rfl⟩
    go_wp2_with fail
    refine hK.out _ _ ?_ (fun hHeld => ?_)
    · (exact HS.out _ (by first | assumption | exact hHeld.1 | exact below_step hHeld.1 (by assumption) | exact below_step hHeld.1 (below_alloc _ _)))
    clear hK K
    try simp only [Act.put, List.setIfInBounds_toArray, List.set_cons_zero, List.set_cons_succ]
    refine take_to 6 15 #[true, true, true, true, true, true, true, false, false, false, false, false, false, false, false, false, false, false, true, true, false, true, true, false, false, false, false] (v := ?_) ops_80_2_6 rfl ops_80_2_ns (by kernel_rfl) (by kernel_rfl) (fun _ _ _ h => h) (by rfl) ?y60 (by assumption) ?_
    case y60 =>
      intro w hSw
      try dsimp only at hSw
      go_simp
      try with_reducible rfl
    simp only [List.set_cons_zero, List.set_cons_succ]
    refine take_to 7 16 #[true, true, true, true, true, true, true, true, false, false, false, false, false, false, false, false, false, false, true, true, false, true, true, false, false, false, false] (v := ?_) ops_80_2_7 rfl ops_80_2_ns (by kernel_rfl) (by kernel_rfl) (fun _ _ _ h => h) (by rfl) ?y70 (by assumption) ?_
    case y70 =>
      intro w hSw
      try dsimp only at hSw
      go_simp
      try with_reducible rfl
    simp only [List.set_cons_zero, List.set_cons_succ]
    refine take_to 8 17 #[true, true, true, true, true, true, true, true, true, false, false, false, false, false, false, false, false, false, true, true, false, true, true, false, false, false, false] (v := ?_) ops_80_2_8 rfl ops_80_2_ns (by kernel_rfl) (by kernel_rfl) (fun _ _ _ h => h) (by rfl) ?y80 (by assumption) ?_
    case y80 =>
      intro w hSw
      try dsimp only at hSw
      go_simp
      try with_reducible rfl
    simp only [List.set_cons_zero, List.set_cons_succ]
    refine take_to 9 18 #[true, true, true, true, true, true, true, true, true, true, false, false, false, false, false, false, false, false, true, true, false, true, true, false, false, false, false] (v := ?_) ops_80_2_9 rfl ops_80_2_ns (by kernel_rfl) (by kernel_rfl) (fun _ _ _ h => h) (by rfl) ?y90 (by assumption) ?_
    case y90 =>
      intro w hSw
      try dsimp only at hSw
      go_simp
      try with_reducible rfl
    simp only [List.set_cons_zero, List.set_cons_succ]
    refine take_to 10 19 #[true, true, true, true, true, true, true, true, true, true, true, false, false, false, false, false, false, false, true, true, false, true, true, false, false, false, false] (v := ?_) ops_80_2_10 rfl ops_80_2_ns (by kernel_rfl) (by kernel_rfl) (fun _ _ _ h => h) (by rfl) ?y100 (by assumption) ?_
    case y100 =>
      intro w hSw
      try dsimp only at hSw
      go_simp
      try with_reducible rfl
    simp only [List.set_cons_zero, List.set_cons_succ]
    refine take_to 11 20 #[true, true, true, true, true, true, true, true, true, true, true, true, false, false, false, false, false, false, true, true, false, true, true, false, false, false, false] (v := ?_) ops_80_2_11 rfl ops_80_2_ns (by kernel_rfl) (by kernel_rfl) (fun _ _ _ h => h) (by rfl) ?y110 (by assumption) ?_
    case y110 =>
      intro w hSw
      try dsimp only at hSw
      go_simp
      try with_reducible rfl
    simp only [List.set_cons_zero, List.set_cons_succ]
    refine take_to 12 21 #[true, true, true, true, true, true, true, true, true, true, true, true, true, false, false, false, false, false, true, true, false, true, true, false, false, false, false] (v := ?_) ops_80_2_12 rfl ops_80_2_ns (by kernel_rfl) (by kernel_rfl) (fun _ _ _ h => h) (by rfl) ?y120 (by assumption) ?_
    case y120 =>
      intro w hSw
      try dsimp only at hSw
      go_simp
      try with_reducible rfl
    simp only [List.set_cons_zero, List.set_cons_succ]
    refine take_to 13 22 #[true, true, true, true, true, true, true, true, true, true, true, true, true, true, false, false, false, false, true, true, false, true, true, false, false, false, false] (v := ?_) ops_80_2_13 rfl ops_80_2_ns (by kernel_rfl) (by kernel_rfl) (fun _ _ _ h => h) (by rfl) ?y130 (by assumption) ?_
    case y130 =>
      intro w hSw
      try dsimp only at hSw
      go_simp
      try with_reducible rfl
    simp only [List.set_cons_zero, List.set_cons_succ]
    refine take_to 14 23 #[true, true, true, true, true, true, true, true, true, true, true, true, true, true, true, false, false, false, true, true, false, true, true, false, false, false, false] (v := ?_) ops_80_2_14 rfl ops_80_2_ns (by kernel_rfl) (by kernel_rfl) (fun _ _ _ h => h) (by rfl) ?y140 (by assumption) ?_
    case y140 =>
      intro w hSw
      try dsimp only at hSw
      go_simp
      try with_reducible rfl
    simp only [List.set_cons_zero, List.set_cons_succ]
    refine take_to 15 24 #[true, true, true, true, true, true, true, true, true, true, true, true, true, true, true, true, false, false, true, true, false, true, true, false, false, false, false] (v := ?_) ops_80_2_15 rfl ops_80_2_ns (by kernel_rfl) (by kernel_rfl) (fun _ _ _ h => h) (by rfl) ?y150 (by assumption) ?_
    case y150 =>
      intro w hSw
      try dsimp only at hSw
      go_simp
      try with_reducible rfl
    simp only [List.set_cons_zero, List.set_cons_succ]
    refine take_to 16 25 #[true, true, true, true, true, true, true, true, true, true, true, true, true, true, true, true, true, false, true, true, false, true, true, false, false, false, false] (v := ?_) ops_80_2_16 rfl ops_80_2_ns (by kernel_rfl) (by kernel_rfl) (fun _ _ _ h => h) (by rfl) ?y160 (by assumption) ?_
    case y160 =>
      intro w hSw
      try dsimp only at hSw
      go_simp
      try with_reducible rfl
    simp only [List.set_cons_zero, List.set_cons_succ]
    refine run_to 17 #[true, true, true, true, true, true, true, true, true, true, true, true, true, true, true, true, true, true, true, true, false, true, true, false, false, false, false] ops_80_2_17 (by kernel_rfl) (by kernel_rfl) (by rfl) (fun K hK => ?_)
    go_simp
    refine (unless_calls _ _ _).mono ?_
    rintro e w' ⟨rfl, rfl⟩
    go_wp2_with fail
    refine hK.out _ _ ?_ (fun hHeld => ?_)
    · (exact HS.out _ (by first | assumption | exact hHeld.1 | exact below_step hHeld.1 (by assumption) | exact below_step hHeld.1 (below_alloc _ _)))
    clear hK K
    try simp only [Act.put, List.setIfInBounds_toArray, List.set_cons_zero, List.set_cons_succ]
    refine run_to 20 #[true, true, true, true, true, true, true, true, true, true, true, true, true, true, true, true, true, true, true, true, true, true, true, false, false, false, false] ops_80_2_20 (by kernel_rfl) (by kernel_rfl) (by rfl) (fun K hK => ?_)
    go_simp
    refine (HP.out _ hHeld.1).mono ?_
    rintro e w' ⟨rfl, hb⟩
    go_wp2_with fail
    refine hK.out _ _ ?_ (fun hHeld => ?_)
    · (exact HS.out _ (by first | assumption | exact hHeld.1 | exact below_step hHeld.1 (by assumption) | exact below_step hHeld.1 (below_alloc _ _)))
    clear hK K
    try simp only [Act.put, List.setIfInBounds_toArray, List.set_cons_zero, List.set_cons_succ]
    refine run_to 23 #[true, true, true, true, true, true, true, true, true, true, true, true, true, true, true, true, true, true, true, true, true, true, true, true, false, false, false] ops_80_2_23 (by kernel_rfl) (by kernel_rfl) (by rfl) (fun K hK => ?_)
    go_simp
    refine (wrong_calls c.num c.den _ H4.out H5.out).mono ?_
    rintro e w' ⟨rfl, hb⟩
    go_wp2_with fail
    refine hK.out _ _ ?_ (fun hHeld => ?_)
    · (exact HS.out _ (by first | assumption | exact hHeld.1 | exact below_step hHeld.1 (by assumption) | exact below_step hHeld.1 (below_alloc _ _)))
    clear hK K
    try simp only [Act.put, List.setIfInBounds_toArray, List.set_cons_zero, List.set_cons_succ]
    refine run_to 24 #[true, true, true, true, true, true, true, true, true, true, true, true, true, true, true, true, true, true, true, true, true, true, true, true, true, false, false] ops_80_2_24 (by kernel_rfl) (by kernel_rfl) (by rfl) (fun K hK => ?_)
    go_simp
    refine hK.out _ _ ?_ (fun hHeld => ?_)
    · (exact HS.out _ (by first | assumption | exact hHeld.1 | exact below_step hHeld.1 (by assumption) | exact below_step hHeld.1 (below_alloc _ _)))
    clear hK K
    try simp only [Act.put, List.setIfInBounds_toArray, List.set_cons_zero, List.set_cons_succ]
    refine run_to 25 #[true, true, true, true, true, true, true, true, true, true, true, true, true, true, true, true, true, true, true, true, true, true, true, true, true, true, false] ops_80_2_25 (by kernel_rfl) (by kernel_rfl) (by rfl) (fun K hK => ?_)
    go_simp
    refine (orE_calls _ 0 4 [unlessE (keyB c.who) 5, unlessE (ltS sp.who c.who) 7, poE c.pos, wrongF c.num c.den 10000] _ (by simp) (by exact nums4' _ _ _ _ _ _)).mono ?_
    rintro e w' ⟨rfl, rfl⟩
    go_wp2_with fail
    refine hK.out _ _ ?_ (fun hHeld => ?_)
    · (exact HS.out _ (by first | assumption | exact hHeld.1 | exact below_step hHeld.1 (by assumption) | exact below_step hHeld.1 (below_alloc _ _)))
    clear hK K
    try simp only [Act.put, List.setIfInBounds_toArray, List.set_cons_zero, List.set_cons_succ]
    refine take_to 26 3 #[true, true, true, true, true, true, true, true, true, true, true, true, true, true, true, true, true, true, true, true, true, true, true, true, true, true, true] (v := ?_) ops_80_2_26 rfl ops_80_2_ns (by kernel_rfl) (by kernel_rfl) (fun _ _ _ h => h) (by rfl) ?y260 (by assumption) ?_
    case y260 =>
      intro w hSw
      try dsimp only at hSw
      go_simp
      try with_reducible rfl
    simp only [List.set_cons_zero, List.set_cons_succ]
    refine wpAnyH_done (by kernel_rfl) ?_ _
    go_wp2_with fail
    go_ret
    exact ⟨ret_int Hr.out.symm, below_step hwW hHeld.1⟩

def chkSc (xs : List ScD) : Int := eachE xs.length 20 (scF xs)
set_option maxRecDepth 100000 in
set_option maxHeartbeats 2000000 in
theorem checkScorers_calls (lo : Nat) (v : Value) (xs : List ScD) (w : World) (hR : Scs w lo v xs) (hs : ∀ c ∈ xs, SmallSc c) (hn : xs.length ≤ 1000000) :
    Calls Tryz.prog 25 #[v] w (IntBelow (chkSc xs) w) := by
  obtain ⟨a, c, rfl⟩ := NRows.shape hR
  have hb := below_alloc w (.cells #[.slice a xs.length c] 28)
  have x0 : (w.alloc (.cells #[.slice a xs.length c] 28)).cell? ⟨w.heap.size, 0, none⟩ = some (.slice a xs.length c) := by rw [World.cell?_alloc_at _ _ _ _ rfl]; rfl
  have Hs := Lib.hid hs
  have hf : ∀ (W : World) (i : Nat), i < xs.length → Below (w.alloc (.cells #[.slice a xs.length c] 28)).heap.size (w.alloc (.cells #[.slice a xs.length c] 28)) W → Calls Tryz.prog 80 (#[.int .i64 (i : Int)] ++ #[.pointer (some ⟨w.heap.size, 0, none⟩)]) W (IntBelow (scF xs i) W) := by
    intro W i hi hbW
    obtain ⟨r, hr⟩ : ∃ r, xs[i]? = some r := ⟨xs[i], List.getElem?_eq_getElem hi⟩
    have hRW : Scs W lo (.slice a xs.length c) xs := NRows.below (NRows.below hR hb) hbW
    have y0 := below_cell hbW x0
    rcases scs_at hRW with ⟨_, rfl⟩ | ⟨g, off, cap, e, _⟩
    · simp at hi
    · rw [e] at hRW y0
      exact checkScorers1_calls w.heap.size g off cap i lo xs r W hr (Hs.out r (List.mem_of_getElem? hr)) hn y0 hRW
  have Hf := Lib.hid hf
  have Hb := Lib.hid hb
  clear hf hs hR hb
  go_enter Tryz.func25, Tryz.ntmps25
  go_wp2_with fail
  refine (each_calls 80 #[.pointer (some ⟨w.heap.size, 0, none⟩)] (enters_of Tryz.func80 (by kernel_rfl) rfl) (scF xs) xs.length 20 _ hn Hf.out).mono ?_
  rintro e w' ⟨rfl, hb⟩
  go_wp2_with fail
  go_ret
  exact ⟨rfl, below_step Hb.out hb⟩
end Go.Proofs.YthlfjfmlmcoihaaGreat
