/- CheckFills. -/
import Derived.Test.YthlfjfmlmcoihaaGreatMgal
import Derived.Test.YthlfjfmlmcoihaaGreatMgam
namespace Go.Proofs.YthlfjfmlmcoihaaGreat
open Go.RowKit

def fiAt (fs : List FiD) (i : Nat) : FiD := fs[i]?.getD ⟨⟨#[]⟩, ⟨#[]⟩⟩
theorem fiAt_some {fs : List FiD} {i : Nat} {f : FiD} (h : fs[i]? = some f) : fiAt fs i = f := by simp [fiAt, h]
/-- What is wrong with fill i. -/
def chF (ss : List SlD) (cs : List ScD) (fs : List FiD) (i : Nat) : Int :=
  if beqS (fiAt fs i).slot (slAt ss i).key = false then 8 else if (fiAt fs i).who.size = 0 then 0 else
    firstE [unlessE (knownB (cs.map ScD.who) (fiAt fs i).who) 8, unlessE (!inF (fs.take i) (fiAt fs i).who) 6, unlessE (suitB (fndC cs (fiAt fs i).who) (slAt ss i)) 10]
def ch0 (ss : List SlD) (cs : List ScD) (fs : List FiD) : Int := firstE [sdE ss cs, unlessE ((fs.length : Int) == (ss.length : Int)) 3]
def chkFi (ss : List SlD) (cs : List ScD) (fs : List FiD) : Int := if ch0 ss cs fs = 0 then eachE fs.length fs.length (chF ss cs fs) else ch0 ss cs fs
theorem fis_take {w : World} {lo g off n c m : Nat} {fs : List FiD} (h : Fis w lo (.slice (some ⟨g, off, none⟩) n c) fs) (hn : n = fs.length) (hm : m ≤ n) : Fis w lo (.slice (some ⟨g, off, none⟩) m c) (fs.take m) := by
  have := rows_take h (m := m) (by simpa using hn) hm
  rw [← List.map_take] at this
  exact this
def ops_83_2 : Array Go.Oper := #[
  { dst := some 13, op := Go.Op.fieldAddr 49 (Go.Operand.tmp 6) 0, type := 0, pos := "lineup.go:46", after := #[], guard := none },
  { dst := some 14, op := Go.Op.load 9 (Go.Operand.tmp 13), type := 9, pos := "lineup.go:46", after := #[{ on := 0, ground := Go.Ground.data }], guard := none },
  { dst := some 15, op := Go.Op.load 26 (Go.Operand.tmp 2), type := 26, pos := "lineup.go:46", after := #[], guard := none },
  { dst := some 16, op := Go.Op.move (Go.Operand.tmp 0), type := 3, pos := "lineup.go:46", after := #[], guard := none },
  { dst := some 17, op := Go.Op.indexAddr 26 (Go.Operand.tmp 15) (Go.Operand.tmp 16), type := 0, pos := "lineup.go:46", after := #[{ on := 2, ground := Go.Ground.data }, { on := 3, ground := Go.Ground.data }], guard := none },
  { dst := some 18, op := Go.Op.fieldAddr 78 (Go.Operand.tmp 17) 0, type := 0, pos := "lineup.go:46", after := #[{ on := 4, ground := Go.Ground.data }], guard := none },
  { dst := some 19, op := Go.Op.load 9 (Go.Operand.tmp 18), type := 9, pos := "lineup.go:46", after := #[{ on := 5, ground := Go.Ground.data }], guard := none },
  { dst := some 20, op := Go.Op.binOp Go.BinOp.neq 9 (Go.Operand.tmp 14) (Go.Operand.tmp 19) 9, type := 4, pos := "lineup.go:46", after := #[{ on := 1, ground := Go.Ground.data }, { on := 6, ground := Go.Ground.data }], guard := none }]
theorem ops_83_2_0 : ops_83_2[0]? = some ({ dst := some 13, op := Go.Op.fieldAddr 49 (Go.Operand.tmp 6) 0, type := 0, pos := "lineup.go:46", after := #[], guard := none } : Go.Oper) := rfl
theorem ops_83_2_1 : ops_83_2[1]? = some ({ dst := some 14, op := Go.Op.load 9 (Go.Operand.tmp 13), type := 9, pos := "lineup.go:46", after := #[{ on := 0, ground := Go.Ground.data }], guard := none } : Go.Oper) := rfl
theorem ops_83_2_2 : ops_83_2[2]? = some ({ dst := some 15, op := Go.Op.load 26 (Go.Operand.tmp 2), type := 26, pos := "lineup.go:46", after := #[], guard := none } : Go.Oper) := rfl
theorem ops_83_2_3 : ops_83_2[3]? = some ({ dst := some 16, op := Go.Op.move (Go.Operand.tmp 0), type := 3, pos := "lineup.go:46", after := #[], guard := none } : Go.Oper) := rfl
theorem ops_83_2_4 : ops_83_2[4]? = some ({ dst := some 17, op := Go.Op.indexAddr 26 (Go.Operand.tmp 15) (Go.Operand.tmp 16), type := 0, pos := "lineup.go:46", after := #[{ on := 2, ground := Go.Ground.data }, { on := 3, ground := Go.Ground.data }], guard := none } : Go.Oper) := rfl
theorem ops_83_2_5 : ops_83_2[5]? = some ({ dst := some 18, op := Go.Op.fieldAddr 78 (Go.Operand.tmp 17) 0, type := 0, pos := "lineup.go:46", after := #[{ on := 4, ground := Go.Ground.data }], guard := none } : Go.Oper) := rfl
theorem ops_83_2_6 : ops_83_2[6]? = some ({ dst := some 19, op := Go.Op.load 9 (Go.Operand.tmp 18), type := 9, pos := "lineup.go:46", after := #[{ on := 5, ground := Go.Ground.data }], guard := none } : Go.Oper) := rfl
theorem ops_83_2_7 : ops_83_2[7]? = some ({ dst := some 20, op := Go.Op.binOp Go.BinOp.neq 9 (Go.Operand.tmp 14) (Go.Operand.tmp 19) 9, type := 4, pos := "lineup.go:46", after := #[{ on := 1, ground := Go.Ground.data }, { on := 6, ground := Go.Ground.data }], guard := none } : Go.Oper) := rfl
theorem ops_83_2_ns : Go.Region.noSelect ops_83_2 = true := by kernel_rfl
def ops_83_7 : Array Go.Oper := #[
  { dst := some 31, op := Go.Op.move (Go.Operand.tmp 8), type := 4, pos := "lineup.go:53", after := #[], guard := none },
  { dst := some 32, op := Go.Op.call { callee := Go.Callee.value (Go.Operand.func 54), args := #[Go.Operand.tmp 31, Go.Operand.const (Go.Value.int Go.IntKind.i64 8)], argTypes := #[4, 35] }, type := 35, pos := "lineup.go:54", after := #[{ on := 0, ground := Go.Ground.data }], guard := none },
  { dst := some 33, op := Go.Op.load 30 (Go.Operand.tmp 1), type := 30, pos := "lineup.go:53", after := #[], guard := none },
  { dst := some 34, op := Go.Op.move (Go.Operand.tmp 0), type := 3, pos := "lineup.go:53", after := #[], guard := none },
  { dst := some 35, op := Go.Op.slice 30 (Go.Operand.tmp 33) none (some (Go.Operand.tmp 34)) none, type := 30, pos := "lineup.go:53", after := #[{ on := 2, ground := Go.Ground.data }, { on := 3, ground := Go.Ground.data }], guard := none },
  { dst := some 36, op := Go.Op.fieldAddr 49 (Go.Operand.tmp 6) 1, type := 0, pos := "lineup.go:53", after := #[], guard := none },
  { dst := some 37, op := Go.Op.load 9 (Go.Operand.tmp 36), type := 9, pos := "lineup.go:53", after := #[{ on := 5, ground := Go.Ground.data }], guard := none },
  { dst := some 38, op := Go.Op.call { callee := Go.Callee.value (Go.Operand.func 55), args := #[Go.Operand.tmp 35, Go.Operand.tmp 37], argTypes := #[30, 9] }, type := 4, pos := "lineup.go:55", after := #[{ on := 4, ground := Go.Ground.data }, { on := 6, ground := Go.Ground.data }, { on := 1, ground := Go.Ground.chain }], guard := none },
  { dst := some 39, op := Go.Op.unOp Go.UnOp.not 4 (Go.Operand.tmp 38), type := 4, pos := "lineup.go:53", after := #[{ on := 7, ground := Go.Ground.data }], guard := none },
  { dst := some 40, op := Go.Op.call { callee := Go.Callee.value (Go.Operand.func 54), args := #[Go.Operand.tmp 39, Go.Operand.const (Go.Value.int Go.IntKind.i64 6)], argTypes := #[4, 35] }, type := 35, pos := "lineup.go:55", after := #[{ on := 8, ground := Go.Ground.data }, { on := 7, ground := Go.Ground.chain }], guard := none },
  { dst := some 41, op := Go.Op.load 83 (Go.Operand.tmp 7), type := 83, pos := "lineup.go:53", after := #[], guard := none },
  { dst := some 42, op := Go.Op.load 26 (Go.Operand.tmp 2), type := 26, pos := "lineup.go:53", after := #[], guard := none },
  { dst := some 43, op := Go.Op.move (Go.Operand.tmp 0), type := 3, pos := "lineup.go:53", after := #[], guard := none },
  { dst := some 44, op := Go.Op.indexAddr 26 (Go.Operand.tmp 42) (Go.Operand.tmp 43), type := 0, pos := "lineup.go:53", after := #[{ on := 11, ground := Go.Ground.data }, { on := 12, ground := Go.Ground.data }], guard := none },
  { dst := some 45, op := Go.Op.load 78 (Go.Operand.tmp 44), type := 78, pos := "lineup.go:53", after := #[{ on := 13, ground := Go.Ground.data }], guard := none },
  { dst := some 46, op := Go.Op.call { callee := Go.Callee.value (Go.Operand.func 84), args := #[Go.Operand.tmp 41, Go.Operand.tmp 45], argTypes := #[83, 78] }, type := 4, pos := "lineup.go:56", after := #[{ on := 10, ground := Go.Ground.data }, { on := 14, ground := Go.Ground.data }, { on := 9, ground := Go.Ground.chain }], guard := none },
  { dst := some 47, op := Go.Op.call { callee := Go.Callee.value (Go.Operand.func 54), args := #[Go.Operand.tmp 46, Go.Operand.const (Go.Value.int Go.IntKind.i64 10)], argTypes := #[4, 35] }, type := 35, pos := "lineup.go:56", after := #[{ on := 15, ground := Go.Ground.data }, { on := 15, ground := Go.Ground.chain }], guard := none },
  { dst := some 48, op := Go.Op.buildSlice 95 3 #[(0, Go.Operand.tmp 32), (1, Go.Operand.tmp 40), (2, Go.Operand.tmp 47)], type := 95, pos := "lineup.go:53", after := #[{ on := 1, ground := Go.Ground.data }, { on := 9, ground := Go.Ground.data }, { on := 16, ground := Go.Ground.data }], guard := none },
  { dst := some 49, op := Go.Op.call { callee := Go.Callee.value (Go.Operand.func 53), args := #[Go.Operand.tmp 48], argTypes := #[95] }, type := 35, pos := "lineup.go:53", after := #[{ on := 17, ground := Go.Ground.data }, { on := 16, ground := Go.Ground.chain }], guard := none },
  { dst := some 5, op := Go.Op.assign (Go.Operand.tmp 49), type := 35, pos := "lineup.go:53", after := #[{ on := 18, ground := Go.Ground.data }, { on := 18, ground := Go.Ground.chain }, { on := 0, ground := Go.Ground.phase }, { on := 1, ground := Go.Ground.phase }, { on := 2, ground := Go.Ground.phase }, { on := 3, ground := Go.Ground.phase }, { on := 4, ground := Go.Ground.phase }, { on := 5, ground := Go.Ground.phase }, { on := 6, ground := Go.Ground.phase }, { on := 7, ground := Go.Ground.phase }, { on := 8, ground := Go.Ground.phase }, { on := 9, ground := Go.Ground.phase }, { on := 10, ground := Go.Ground.phase }, { on := 11, ground := Go.Ground.phase }, { on := 12, ground := Go.Ground.phase }, { on := 13, ground := Go.Ground.phase }, { on := 14, ground := Go.Ground.phase }, { on := 15, ground := Go.Ground.phase }, { on := 16, ground := Go.Ground.phase }, { on := 17, ground := Go.Ground.phase }, { on := 18, ground := Go.Ground.phase }], guard := none }]
theorem ops_83_7_0 : ops_83_7[0]? = some ({ dst := some 31, op := Go.Op.move (Go.Operand.tmp 8), type := 4, pos := "lineup.go:53", after := #[], guard := none } : Go.Oper) := rfl
theorem ops_83_7_1 : ops_83_7[1]? = some ({ dst := some 32, op := Go.Op.call { callee := Go.Callee.value (Go.Operand.func 54), args := #[Go.Operand.tmp 31, Go.Operand.const (Go.Value.int Go.IntKind.i64 8)], argTypes := #[4, 35] }, type := 35, pos := "lineup.go:54", after := #[{ on := 0, ground := Go.Ground.data }], guard := none } : Go.Oper) := rfl
theorem ops_83_7_2 : ops_83_7[2]? = some ({ dst := some 33, op := Go.Op.load 30 (Go.Operand.tmp 1), type := 30, pos := "lineup.go:53", after := #[], guard := none } : Go.Oper) := rfl
theorem ops_83_7_3 : ops_83_7[3]? = some ({ dst := some 34, op := Go.Op.move (Go.Operand.tmp 0), type := 3, pos := "lineup.go:53", after := #[], guard := none } : Go.Oper) := rfl
theorem ops_83_7_4 : ops_83_7[4]? = some ({ dst := some 35, op := Go.Op.slice 30 (Go.Operand.tmp 33) none (some (Go.Operand.tmp 34)) none, type := 30, pos := "lineup.go:53", after := #[{ on := 2, ground := Go.Ground.data }, { on := 3, ground := Go.Ground.data }], guard := none } : Go.Oper) := rfl
theorem ops_83_7_5 : ops_83_7[5]? = some ({ dst := some 36, op := Go.Op.fieldAddr 49 (Go.Operand.tmp 6) 1, type := 0, pos := "lineup.go:53", after := #[], guard := none } : Go.Oper) := rfl
theorem ops_83_7_6 : ops_83_7[6]? = some ({ dst := some 37, op := Go.Op.load 9 (Go.Operand.tmp 36), type := 9, pos := "lineup.go:53", after := #[{ on := 5, ground := Go.Ground.data }], guard := none } : Go.Oper) := rfl
theorem ops_83_7_7 : ops_83_7[7]? = some ({ dst := some 38, op := Go.Op.call { callee := Go.Callee.value (Go.Operand.func 55), args := #[Go.Operand.tmp 35, Go.Operand.tmp 37], argTypes := #[30, 9] }, type := 4, pos := "lineup.go:55", after := #[{ on := 4, ground := Go.Ground.data }, { on := 6, ground := Go.Ground.data }, { on := 1, ground := Go.Ground.chain }], guard := none } : Go.Oper) := rfl
theorem ops_83_7_8 : ops_83_7[8]? = some ({ dst := some 39, op := Go.Op.unOp Go.UnOp.not 4 (Go.Operand.tmp 38), type := 4, pos := "lineup.go:53", after := #[{ on := 7, ground := Go.Ground.data }], guard := none } : Go.Oper) := rfl
theorem ops_83_7_9 : ops_83_7[9]? = some ({ dst := some 40, op := Go.Op.call { callee := Go.Callee.value (Go.Operand.func 54), args := #[Go.Operand.tmp 39, Go.Operand.const (Go.Value.int Go.IntKind.i64 6)], argTypes := #[4, 35] }, type := 35, pos := "lineup.go:55", after := #[{ on := 8, ground := Go.Ground.data }, { on := 7, ground := Go.Ground.chain }], guard := none } : Go.Oper) := rfl
theorem ops_83_7_10 : ops_83_7[10]? = some ({ dst := some 41, op := Go.Op.load 83 (Go.Operand.tmp 7), type := 83, pos := "lineup.go:53", after := #[], guard := none } : Go.Oper) := rfl
theorem ops_83_7_11 : ops_83_7[11]? = some ({ dst := some 42, op := Go.Op.load 26 (Go.Operand.tmp 2), type := 26, pos := "lineup.go:53", after := #[], guard := none } : Go.Oper) := rfl
theorem ops_83_7_12 : ops_83_7[12]? = some ({ dst := some 43, op := Go.Op.move (Go.Operand.tmp 0), type := 3, pos := "lineup.go:53", after := #[], guard := none } : Go.Oper) := rfl
theorem ops_83_7_13 : ops_83_7[13]? = some ({ dst := some 44, op := Go.Op.indexAddr 26 (Go.Operand.tmp 42) (Go.Operand.tmp 43), type := 0, pos := "lineup.go:53", after := #[{ on := 11, ground := Go.Ground.data }, { on := 12, ground := Go.Ground.data }], guard := none } : Go.Oper) := rfl
theorem ops_83_7_14 : ops_83_7[14]? = some ({ dst := some 45, op := Go.Op.load 78 (Go.Operand.tmp 44), type := 78, pos := "lineup.go:53", after := #[{ on := 13, ground := Go.Ground.data }], guard := none } : Go.Oper) := rfl
theorem ops_83_7_15 : ops_83_7[15]? = some ({ dst := some 46, op := Go.Op.call { callee := Go.Callee.value (Go.Operand.func 84), args := #[Go.Operand.tmp 41, Go.Operand.tmp 45], argTypes := #[83, 78] }, type := 4, pos := "lineup.go:56", after := #[{ on := 10, ground := Go.Ground.data }, { on := 14, ground := Go.Ground.data }, { on := 9, ground := Go.Ground.chain }], guard := none } : Go.Oper) := rfl
theorem ops_83_7_16 : ops_83_7[16]? = some ({ dst := some 47, op := Go.Op.call { callee := Go.Callee.value (Go.Operand.func 54), args := #[Go.Operand.tmp 46, Go.Operand.const (Go.Value.int Go.IntKind.i64 10)], argTypes := #[4, 35] }, type := 35, pos := "lineup.go:56", after := #[{ on := 15, ground := Go.Ground.data }, { on := 15, ground := Go.Ground.chain }], guard := none } : Go.Oper) := rfl
theorem ops_83_7_17 : ops_83_7[17]? = some ({ dst := some 48, op := Go.Op.buildSlice 95 3 #[(0, Go.Operand.tmp 32), (1, Go.Operand.tmp 40), (2, Go.Operand.tmp 47)], type := 95, pos := "lineup.go:53", after := #[{ on := 1, ground := Go.Ground.data }, { on := 9, ground := Go.Ground.data }, { on := 16, ground := Go.Ground.data }], guard := none } : Go.Oper) := rfl
theorem ops_83_7_18 : ops_83_7[18]? = some ({ dst := some 49, op := Go.Op.call { callee := Go.Callee.value (Go.Operand.func 53), args := #[Go.Operand.tmp 48], argTypes := #[95] }, type := 35, pos := "lineup.go:53", after := #[{ on := 17, ground := Go.Ground.data }, { on := 16, ground := Go.Ground.chain }], guard := none } : Go.Oper) := rfl
theorem ops_83_7_19 : ops_83_7[19]? = some ({ dst := some 5, op := Go.Op.assign (Go.Operand.tmp 49), type := 35, pos := "lineup.go:53", after := #[{ on := 18, ground := Go.Ground.data }, { on := 18, ground := Go.Ground.chain }, { on := 0, ground := Go.Ground.phase }, { on := 1, ground := Go.Ground.phase }, { on := 2, ground := Go.Ground.phase }, { on := 3, ground := Go.Ground.phase }, { on := 4, ground := Go.Ground.phase }, { on := 5, ground := Go.Ground.phase }, { on := 6, ground := Go.Ground.phase }, { on := 7, ground := Go.Ground.phase }, { on := 8, ground := Go.Ground.phase }, { on := 9, ground := Go.Ground.phase }, { on := 10, ground := Go.Ground.phase }, { on := 11, ground := Go.Ground.phase }, { on := 12, ground := Go.Ground.phase }, { on := 13, ground := Go.Ground.phase }, { on := 14, ground := Go.Ground.phase }, { on := 15, ground := Go.Ground.phase }, { on := 16, ground := Go.Ground.phase }, { on := 17, ground := Go.Ground.phase }, { on := 18, ground := Go.Ground.phase }], guard := none } : Go.Oper) := rfl
theorem ops_83_7_ns : Go.Region.noSelect ops_83_7 = true := by kernel_rfl
def ops_26_1 : Array Go.Oper := #[
  { dst := some 8, op := Go.Op.load 26 (Go.Operand.tmp 3), type := 26, pos := "lineup.go:41", after := #[], guard := none },
  { dst := some 9, op := Go.Op.load 28 (Go.Operand.tmp 4), type := 28, pos := "lineup.go:41", after := #[], guard := none },
  { dst := some 10, op := Go.Op.call { callee := Go.Callee.value (Go.Operand.func 82), args := #[Go.Operand.tmp 8, Go.Operand.tmp 9], argTypes := #[26, 28] }, type := 35, pos := "lineup.go:41", after := #[{ on := 0, ground := Go.Ground.data }, { on := 1, ground := Go.Ground.data }], guard := none },
  { dst := some 11, op := Go.Op.load 30 (Go.Operand.tmp 5), type := 30, pos := "lineup.go:41", after := #[], guard := none },
  { dst := some 12, op := Go.Op.call { callee := Go.Callee.builtin Go.Builtin.len, args := #[Go.Operand.tmp 11], argTypes := #[30] }, type := 3, pos := "lineup.go:41", after := #[{ on := 3, ground := Go.Ground.data }], guard := none },
  { dst := some 13, op := Go.Op.load 26 (Go.Operand.tmp 3), type := 26, pos := "lineup.go:41", after := #[], guard := none },
  { dst := some 14, op := Go.Op.call { callee := Go.Callee.builtin Go.Builtin.len, args := #[Go.Operand.tmp 13], argTypes := #[26] }, type := 3, pos := "lineup.go:41", after := #[{ on := 5, ground := Go.Ground.data }], guard := none },
  { dst := some 15, op := Go.Op.binOp Go.BinOp.eql 3 (Go.Operand.tmp 12) (Go.Operand.tmp 14) 3, type := 4, pos := "lineup.go:41", after := #[{ on := 4, ground := Go.Ground.data }, { on := 6, ground := Go.Ground.data }], guard := none },
  { dst := some 16, op := Go.Op.call { callee := Go.Callee.value (Go.Operand.func 54), args := #[Go.Operand.tmp 15, Go.Operand.const (Go.Value.int Go.IntKind.i64 3)], argTypes := #[4, 35] }, type := 35, pos := "lineup.go:41", after := #[{ on := 7, ground := Go.Ground.data }, { on := 2, ground := Go.Ground.chain }], guard := none },
  { dst := some 17, op := Go.Op.buildSlice 95 2 #[(0, Go.Operand.tmp 10), (1, Go.Operand.tmp 16)], type := 95, pos := "lineup.go:41", after := #[{ on := 2, ground := Go.Ground.data }, { on := 8, ground := Go.Ground.data }], guard := none },
  { dst := some 18, op := Go.Op.call { callee := Go.Callee.value (Go.Operand.func 53), args := #[Go.Operand.tmp 17], argTypes := #[95] }, type := 35, pos := "lineup.go:41", after := #[{ on := 9, ground := Go.Ground.data }, { on := 8, ground := Go.Ground.chain }], guard := none },
  { dst := some 7, op := Go.Op.assign (Go.Operand.tmp 18), type := 35, pos := "lineup.go:41", after := #[{ on := 10, ground := Go.Ground.data }, { on := 10, ground := Go.Ground.chain }, { on := 0, ground := Go.Ground.phase }, { on := 1, ground := Go.Ground.phase }, { on := 2, ground := Go.Ground.phase }, { on := 3, ground := Go.Ground.phase }, { on := 4, ground := Go.Ground.phase }, { on := 5, ground := Go.Ground.phase }, { on := 6, ground := Go.Ground.phase }, { on := 7, ground := Go.Ground.phase }, { on := 8, ground := Go.Ground.phase }, { on := 9, ground := Go.Ground.phase }, { on := 10, ground := Go.Ground.phase }], guard := none }]
theorem ops_26_1_0 : ops_26_1[0]? = some ({ dst := some 8, op := Go.Op.load 26 (Go.Operand.tmp 3), type := 26, pos := "lineup.go:41", after := #[], guard := none } : Go.Oper) := rfl
theorem ops_26_1_1 : ops_26_1[1]? = some ({ dst := some 9, op := Go.Op.load 28 (Go.Operand.tmp 4), type := 28, pos := "lineup.go:41", after := #[], guard := none } : Go.Oper) := rfl
theorem ops_26_1_2 : ops_26_1[2]? = some ({ dst := some 10, op := Go.Op.call { callee := Go.Callee.value (Go.Operand.func 82), args := #[Go.Operand.tmp 8, Go.Operand.tmp 9], argTypes := #[26, 28] }, type := 35, pos := "lineup.go:41", after := #[{ on := 0, ground := Go.Ground.data }, { on := 1, ground := Go.Ground.data }], guard := none } : Go.Oper) := rfl
theorem ops_26_1_3 : ops_26_1[3]? = some ({ dst := some 11, op := Go.Op.load 30 (Go.Operand.tmp 5), type := 30, pos := "lineup.go:41", after := #[], guard := none } : Go.Oper) := rfl
theorem ops_26_1_4 : ops_26_1[4]? = some ({ dst := some 12, op := Go.Op.call { callee := Go.Callee.builtin Go.Builtin.len, args := #[Go.Operand.tmp 11], argTypes := #[30] }, type := 3, pos := "lineup.go:41", after := #[{ on := 3, ground := Go.Ground.data }], guard := none } : Go.Oper) := rfl
theorem ops_26_1_5 : ops_26_1[5]? = some ({ dst := some 13, op := Go.Op.load 26 (Go.Operand.tmp 3), type := 26, pos := "lineup.go:41", after := #[], guard := none } : Go.Oper) := rfl
theorem ops_26_1_6 : ops_26_1[6]? = some ({ dst := some 14, op := Go.Op.call { callee := Go.Callee.builtin Go.Builtin.len, args := #[Go.Operand.tmp 13], argTypes := #[26] }, type := 3, pos := "lineup.go:41", after := #[{ on := 5, ground := Go.Ground.data }], guard := none } : Go.Oper) := rfl
theorem ops_26_1_7 : ops_26_1[7]? = some ({ dst := some 15, op := Go.Op.binOp Go.BinOp.eql 3 (Go.Operand.tmp 12) (Go.Operand.tmp 14) 3, type := 4, pos := "lineup.go:41", after := #[{ on := 4, ground := Go.Ground.data }, { on := 6, ground := Go.Ground.data }], guard := none } : Go.Oper) := rfl
theorem ops_26_1_8 : ops_26_1[8]? = some ({ dst := some 16, op := Go.Op.call { callee := Go.Callee.value (Go.Operand.func 54), args := #[Go.Operand.tmp 15, Go.Operand.const (Go.Value.int Go.IntKind.i64 3)], argTypes := #[4, 35] }, type := 35, pos := "lineup.go:41", after := #[{ on := 7, ground := Go.Ground.data }, { on := 2, ground := Go.Ground.chain }], guard := none } : Go.Oper) := rfl
theorem ops_26_1_9 : ops_26_1[9]? = some ({ dst := some 17, op := Go.Op.buildSlice 95 2 #[(0, Go.Operand.tmp 10), (1, Go.Operand.tmp 16)], type := 95, pos := "lineup.go:41", after := #[{ on := 2, ground := Go.Ground.data }, { on := 8, ground := Go.Ground.data }], guard := none } : Go.Oper) := rfl
theorem ops_26_1_10 : ops_26_1[10]? = some ({ dst := some 18, op := Go.Op.call { callee := Go.Callee.value (Go.Operand.func 53), args := #[Go.Operand.tmp 17], argTypes := #[95] }, type := 35, pos := "lineup.go:41", after := #[{ on := 9, ground := Go.Ground.data }, { on := 8, ground := Go.Ground.chain }], guard := none } : Go.Oper) := rfl
theorem ops_26_1_11 : ops_26_1[11]? = some ({ dst := some 7, op := Go.Op.assign (Go.Operand.tmp 18), type := 35, pos := "lineup.go:41", after := #[{ on := 10, ground := Go.Ground.data }, { on := 10, ground := Go.Ground.chain }, { on := 0, ground := Go.Ground.phase }, { on := 1, ground := Go.Ground.phase }, { on := 2, ground := Go.Ground.phase }, { on := 3, ground := Go.Ground.phase }, { on := 4, ground := Go.Ground.phase }, { on := 5, ground := Go.Ground.phase }, { on := 6, ground := Go.Ground.phase }, { on := 7, ground := Go.Ground.phase }, { on := 8, ground := Go.Ground.phase }, { on := 9, ground := Go.Ground.phase }, { on := 10, ground := Go.Ground.phase }], guard := none } : Go.Oper) := rfl
theorem ops_26_1_ns : Go.Region.noSelect ops_26_1 = true := by kernel_rfl
set_option maxRecDepth 100000 in
set_option maxHeartbeats 16000000 in
theorem checkFills1_calls (b1 b2 b3 g off cap h hoff hcap i lo lo' lo3 : Nat) (u : Value) (ss : List SlD) (cs : List ScD) (fs : List FiD) (f : FiD) (s : SlD) (w : World) (hi : fs[i]? = some f) (hs : ss[i]? = some s) (hn : fs.length ≤ 1000000)
    (h1 : w.cell? ⟨b1, 0, none⟩ = some (.slice (some ⟨g, off, none⟩) fs.length cap)) (hF : Fis w lo3 (.slice (some ⟨g, off, none⟩) fs.length cap) fs)
    (h2 : w.cell? ⟨b2, 0, none⟩ = some (.slice (some ⟨h, hoff, none⟩) ss.length hcap)) (hS : Sls w lo' (.slice (some ⟨h, hoff, none⟩) ss.length hcap) ss)
    (h3 : w.cell? ⟨b3, 0, none⟩ = some u) (hC : Scs w lo u cs) (hlo : lo ≤ w.heap.size) :
    Calls Tryz.prog 83 #[.int .i64 (i : Int), .pointer (some ⟨b1, 0, none⟩), .pointer (some ⟨b2, 0, none⟩), .pointer (some ⟨b3, 0, none⟩)] w (IntBelow (chF ss cs fs i) w) := by
  have hlt : i < fs.length := (List.getElem?_eq_some_iff.1 hi).1
  have hls : i < ss.length := (List.getElem?_eq_some_iff.1 hs).1
  rcases fis_at hF with ⟨e, _⟩ | ⟨g', off', cap', e, _, _, _, hcell⟩
  · cases e
  simp only [Value.slice.injEq, Option.some.injEq, Addr.mk.injEq, and_true, true_and] at e
  obtain ⟨⟨rfl, rfl⟩, rfl⟩ := e
  obtain ⟨f0, f1⟩ := hcell i f hi
  clear hcell
  rcases sls_at hS with ⟨e, _⟩ | ⟨g', off', cap', e, _, _, _, hcell⟩
  · cases e
  simp only [Value.slice.injEq, Option.some.injEq, Addr.mk.injEq, and_true, true_and] at e
  obtain ⟨⟨rfl, rfl⟩, rfl⟩ := e
  obtain ⟨pv, s0, s1, hpv⟩ := hcell i s hs
  have Hpv := Lib.hid hpv
  obtain ⟨pa, pc, rfl⟩ := strs_shape hpv
  have hlt' : (i : Int) < (fs.length : Int) := by omega
  have hls' : (i : Int) < (ss.length : Int) := by omega
  have hfit : fs.length ≤ cap := by have := Rows.fits hF; simpa using this
  have hic : i ≤ cap := by omega
  have hil : i ≤ fs.length := by omega
  have HT := Lib.hid (fis_take hF (m := i) rfl (by omega))
  have HC := Lib.hid hC
  obtain ⟨a, c, rfl⟩ := NRows.shape hC
  have Hr := Lib.hid (show chF ss cs fs i = if beqS f.slot s.key = false then 8 else if f.who.size = 0 then 0 else firstE [unlessE (knownB (cs.map ScD.who) f.who) 8, unlessE (!inF (fs.take i) f.who) 6, unlessE (suitB (fndC cs f.who) s) 10] by unfold chF; rw [fiAt_some hi, slAt_some hs])
  generalize chF ss cs fs i = R at Hr ⊢
  obtain ⟨W, hW⟩ : ∃ W, W = w.alloc (.cells #[.string f.slot, .string f.who] 49) := ⟨_, rfl⟩
  have hwW : Below w.heap.size w W := by rw [hW]; exact below_alloc w _
  have hx : W.heap[w.heap.size]? = some (.cells #[.string f.slot, .string f.who] 49 (0, 0)) := by rw [hW]; exact heap_alloc_new w _
  have x0 := cell_at hx 0 rfl
  have x1 := cell_at hx 1 rfl
  have HS := Lib.hid (show ∀ w', Below W.heap.size W w' → (Below W.heap.size W w' ∧ w'.cell? ⟨b1, 0, none⟩ = some (.slice (some ⟨g, off, none⟩) fs.length cap) ∧ w'.cell? ⟨b2, 0, none⟩ = some (.slice (some ⟨h, hoff, none⟩) ss.length hcap) ∧ w'.cell? ⟨b3, 0, none⟩ = some (.slice a cs.length c) ∧ w'.cell? ⟨w.heap.size, 0, none⟩ = some (.string f.slot) ∧ w'.cell? ⟨w.heap.size, 1, none⟩ = some (.string f.who) ∧ w'.cell? ⟨h, hoff + i * 2, none⟩ = some (.string s.key) ∧ w'.cell? ⟨h, hoff + i * 2 + 1, none⟩ = some (.slice pa s.pos.length pc)) from fun w' hb => ⟨hb, below_cell hb (below_cell hwW h1), below_cell hb (below_cell hwW h2), below_cell hb (below_cell hwW h3), below_cell hb x0, below_cell hb x1, below_cell hb (below_cell hwW s0), below_cell hb (below_cell hwW s1)⟩)
  have hb0 := (Below.refl W.heap.size W).drew
  have e1 : (!(f.slot.toList == s.key.toList)) = !beqS f.slot s.key := rfl
  clear hC hF hS hi hs hcell h2 h3 s0 s1 hx x0 x1 hpv
  go_enter Tryz.func83, Tryz.ntmps83
  go_upto_region 2 with fail
  rw [← hW]
  clear hW h1 f0 f1
  show Code.wp _ (Code.region 2 ops_83_2 true) _ _ _
  refine region_start 8 (fun w' => Below W.heap.size W w' ∧ w'.cell? ⟨b1, 0, none⟩ = some (.slice (some ⟨g, off, none⟩) fs.length cap) ∧ w'.cell? ⟨b2, 0, none⟩ = some (.slice (some ⟨h, hoff, none⟩) ss.length hcap) ∧ w'.cell? ⟨b3, 0, none⟩ = some (.slice a cs.length c) ∧ w'.cell? ⟨w.heap.size, 0, none⟩ = some (.string f.slot) ∧ w'.cell? ⟨w.heap.size, 1, none⟩ = some (.string f.who) ∧ w'.cell? ⟨h, hoff + i * 2, none⟩ = some (.string s.key) ∧ w'.cell? ⟨h, hoff + i * 2 + 1, none⟩ = some (.slice pa s.pos.length pc)) (by kernel_rfl) rfl ?_ (fun hHeld => ?_)
  · (exact HS.out _ (by first | assumption | exact hHeld.1 | exact below_step hHeld.1 (by assumption) | exact below_step hHeld.1 (below_alloc _ _)))
  refine take_to 0 13 #[true, false, false, false, false, false, false, false] (v := ?_) ops_83_2_0 rfl ops_83_2_ns (by kernel_rfl) (by kernel_rfl) (fun _ _ _ h => h) (by rfl) ?y02 (by assumption) ?_
  case y02 =>
    intro w hSw
    try dsimp only at hSw
    go_simp
    try with_reducible rfl
  simp only [List.set_cons_zero, List.set_cons_succ]
  refine take_to 1 14 #[true, true, false, false, false, false, false, false] (v := ?_) ops_83_2_1 rfl ops_83_2_ns (by kernel_rfl) (by kernel_rfl) (fun _ _ _ h => h) (by rfl) ?y12 (by assumption) ?_
  case y12 =>
    intro w hSw
    try dsimp only at hSw
    go_simp
    try with_reducible rfl
  simp only [List.set_cons_zero, List.set_cons_succ]
  refine take_to 2 15 #[true, true, true, false, false, false, false, false] (v := ?_) ops_83_2_2 rfl ops_83_2_ns (by kernel_rfl) (by kernel_rfl) (fun _ _ _ h => h) (by rfl) ?y22 (by assumption) ?_
  case y22 =>
    intro w hSw
    try dsimp only at hSw
    go_simp
    try with_reducible rfl
  simp only [List.set_cons_zero, List.set_cons_succ]
  refine take_to 3 16 #[true, true, true, true, false, false, false, false] (v := ?_) ops_83_2_3 rfl ops_83_2_ns (by kernel_rfl) (by kernel_rfl) (fun _ _ _ h => h) (by rfl) ?y32 (by assumption) ?_
  case y32 =>
    intro w hSw
    try dsimp only at hSw
    go_simp
    try with_reducible rfl
  simp only [List.set_cons_zero, List.set_cons_succ]
  refine take_to 4 17 #[true, true, true, true, true, false, false, false] (v := ?_) ops_83_2_4 rfl ops_83_2_ns (by kernel_rfl) (by kernel_rfl) (fun _ _ _ h => h) (by rfl) ?y42 (by assumption) ?_
  case y42 =>
    intro w hSw
    try dsimp only at hSw
    go_simp
    try with_reducible rfl
  simp only [List.set_cons_zero, List.set_cons_succ]
  refine take_to 5 18 #[true, true, true, true, true, true, false, false] (v := ?_) ops_83_2_5 rfl ops_83_2_ns (by kernel_rfl) (by kernel_rfl) (fun _ _ _ h => h) (by rfl) ?y52 (by assumption) ?_
  case y52 =>
    intro w hSw
    try dsimp only at hSw
    go_simp
    try with_reducible rfl
  simp only [List.set_cons_zero, List.set_cons_succ]
  refine take_to 6 19 #[true, true, true, true, true, true, true, false] (v := ?_) ops_83_2_6 rfl ops_83_2_ns (by kernel_rfl) (by kernel_rfl) (fun _ _ _ h => h) (by rfl) ?y62 (by assumption) ?_
  case y62 =>
    intro w hSw
    try dsimp only at hSw
    go_simp
    try with_reducible rfl
  simp only [List.set_cons_zero, List.set_cons_succ]
  refine take_to 7 20 #[true, true, true, true, true, true, true, true] (v := ?_) ops_83_2_7 rfl ops_83_2_ns (by kernel_rfl) (by kernel_rfl) (fun _ _ _ h => h) (by rfl) ?y72 (by assumption) ?_
  case y72 =>
    intro w hSw
    try dsimp only at hSw
    go_simp
    try with_reducible rfl
  simp only [List.set_cons_zero, List.set_cons_succ]
  refine wpAnyH_done (by kernel_rfl) ?_ _
  have hb1 := hHeld.1
  obtain ⟨-, d1, d2, d3, d4, d5, d6, d7⟩ := hHeld
  cases hq : beqS f.slot s.key
  · rw [hq] at Hr
    rw [hq] at e1
    clear hq d1 d2 d3 d4 d5 d6 d7
    go_wp2_with fail
    go_ret
    exact ⟨ret_int (by rw [Hr.out]; rfl), below_step hwW hb1⟩
  · rw [hq] at Hr
    clear hq e1
    by_cases hz : f.who.size = 0
    · have e2 : f.who.toList.isEmpty = true := by rw [empty_of]; exact decide_eq_true hz
      have Hz := Lib.hid hz
      clear hz d1 d2 d3 d4 d6 d7
      go_wp2_with fail
      go_ret
      exact ⟨ret_int (by rw [Hr.out, if_neg (by simp), if_pos Hz.out]), below_step hwW hb1⟩
    · have e2 : f.who.toList.isEmpty = false := by rw [empty_of]; exact decide_eq_false hz
      rw [if_neg (by simp), if_neg hz] at Hr
      have CF := Lib.hid (find_calls lo _ cs f.who _ (NRows.below HC.out (below_step hwW hb1)) (Nat.le_trans hlo (Nat.le_trans hwW.size hb1.size)))
      generalize knownB (cs.map ScD.who) f.who = KB at Hr CF
      generalize fndC cs f.who = Fc at Hr CF
      clear hz d1 d2 d4 d6 d7
      go_wp2_with fail
      refine CF.out.mono ?_
      rintro e w5 ⟨x, rfl, hx, hb5⟩
      have hb15 := below_step hb1 hb5
      have Hx := Lib.hid hx
      obtain ⟨xa, xc, rfl⟩ := strs_shape hx
      clear CF hx hb5 e2 d3 d5
      go_upto_region 7 with fail
      obtain ⟨W7, hW7⟩ : ∃ W7, W7 = w5.alloc (.cells #[.string Fc.who, .slice xa Fc.pos.length xc, .int .i64 Fc.num, .int .i64 Fc.den, .bool Fc.played] 83) := ⟨_, rfl⟩
      have hb7 : Below W.heap.size W W7 := by rw [hW7]; exact below_step hb15 (below_alloc w5 _)
      have hx7 : W7.heap[w5.heap.size]? = some (.cells #[.string Fc.who, .slice xa Fc.pos.length xc, .int .i64 Fc.num, .int .i64 Fc.den, .bool Fc.played] 83 (0, 0)) := by rw [hW7]; exact heap_alloc_new w5 _
      have Hx7 := Lib.hid (Hx.out.below (show Below w5.heap.size w5 W7 by rw [hW7]; exact below_alloc w5 _))
      have y0 := cell_at hx7 0 rfl
      have y1 := cell_at hx7 1 rfl
      have y2 := cell_at hx7 2 rfl
      have y3 := cell_at hx7 3 rfl
      have y4 := cell_at hx7 4 rfl
      rw [← hW7]
      have hb07 := below_step hwW hb7
      have Hz7 := Lib.hid hb7
      have HS7 := Lib.hid (show ∀ w', Below W7.heap.size W7 w' → (Below W7.heap.size W7 w' ∧ w'.cell? ⟨b1, 0, none⟩ = some (.slice (some ⟨g, off, none⟩) fs.length cap) ∧ w'.cell? ⟨b2, 0, none⟩ = some (.slice (some ⟨h, hoff, none⟩) ss.length hcap) ∧ w'.cell? ⟨w.heap.size, 1, none⟩ = some (.string f.who) ∧ w'.cell? ⟨h, hoff + i * 2, none⟩ = some (.string s.key) ∧ w'.cell? ⟨h, hoff + i * 2 + 1, none⟩ = some (.slice pa s.pos.length pc) ∧ w'.cell? ⟨w5.heap.size, 0, none⟩ = some (.string Fc.who) ∧ w'.cell? ⟨w5.heap.size, 1, none⟩ = some (.slice xa Fc.pos.length xc) ∧ w'.cell? ⟨w5.heap.size, 2, none⟩ = some (.int .i64 Fc.num) ∧ w'.cell? ⟨w5.heap.size, 3, none⟩ = some (.int .i64 Fc.den) ∧ w'.cell? ⟨w5.heap.size, 4, none⟩ = some (.bool Fc.played)) from fun w' hb => ⟨hb, (HS.out _ (below_step Hz7.out hb)).2.1, (HS.out _ (below_step Hz7.out hb)).2.2.1, (HS.out _ (below_step Hz7.out hb)).2.2.2.2.2.1, (HS.out _ (below_step Hz7.out hb)).2.2.2.2.2.2.1, (HS.out _ (below_step Hz7.out hb)).2.2.2.2.2.2.2, below_cell hb y0, below_cell hb y1, below_cell hb y2, below_cell hb y3, below_cell hb y4⟩)
      have hb0 := (Below.refl W7.heap.size W7).drew
      generalize hX7 : w5.heap.size = X7 at HS7 hx7 y0 y1 y2 y3 y4 ⊢
      clear hW7 hx7 y0 y1 y2 y3 y4 hX7 hb15 hb1 hb7 Hx
      show Code.wp _ (Code.region 7 ops_83_7 true) _ _ _
      refine region_start 20 (fun w' => Below W7.heap.size W7 w' ∧ w'.cell? ⟨b1, 0, none⟩ = some (.slice (some ⟨g, off, none⟩) fs.length cap) ∧ w'.cell? ⟨b2, 0, none⟩ = some (.slice (some ⟨h, hoff, none⟩) ss.length hcap) ∧ w'.cell? ⟨w.heap.size, 1, none⟩ = some (.string f.who) ∧ w'.cell? ⟨h, hoff + i * 2, none⟩ = some (.string s.key) ∧ w'.cell? ⟨h, hoff + i * 2 + 1, none⟩ = some (.slice pa s.pos.length pc) ∧ w'.cell? ⟨X7, 0, none⟩ = some (.string Fc.who) ∧ w'.cell? ⟨X7, 1, none⟩ = some (.slice xa Fc.pos.length xc) ∧ w'.cell? ⟨X7, 2, none⟩ = some (.int .i64 Fc.num) ∧ w'.cell? ⟨X7, 3, none⟩ = some (.int .i64 Fc.den) ∧ w'.cell? ⟨X7, 4, none⟩ = some (.bool Fc.played)) (by kernel_rfl) rfl ?_ (fun hHeld => ?_)
      · (exact HS7.out _ (by first | assumption | exact hHeld.1 | exact below_step hHeld.1 (by assumption) | exact below_step hHeld.1 (below_alloc _ _)))
      refine take_to 0 31 #[true, false, false, false, false, false, false, false, false, false, false, false, false, false, false, false, false, false, false, false] (v := ?_) ops_83_7_0 rfl ops_83_7_ns (by kernel_rfl) (by kernel_rfl) (fun _ _ _ h => h) (by rfl) ?y07 (by assumption) ?_
      case y07 =>
        intro w hSw
        try dsimp only at hSw
        go_simp
        try with_reducible rfl
      simp only [List.set_cons_zero, List.set_cons_succ]
      refine take_to 2 33 #[true, false, true, false, false, false, false, false, false, false, false, false, false, false, false, false, false, false, false, false] (v := ?_) ops_83_7_2 rfl ops_83_7_ns (by kernel_rfl) (by kernel_rfl) (fun _ _ _ h => h) (by rfl) ?y27 (by assumption) ?_
      case y27 =>
        intro w hSw
        try dsimp only at hSw
        go_simp
        try with_reducible rfl
      simp only [List.set_cons_zero, List.set_cons_succ]
      refine take_to 3 34 #[true, false, true, true, false, false, false, false, false, false, false, false, false, false, false, false, false, false, false, false] (v := ?_) ops_83_7_3 rfl ops_83_7_ns (by kernel_rfl) (by kernel_rfl) (fun _ _ _ h => h) (by rfl) ?y37 (by assumption) ?_
      case y37 =>
        intro w hSw
        try dsimp only at hSw
        go_simp
        try with_reducible rfl
      simp only [List.set_cons_zero, List.set_cons_succ]
      refine take_to 4 35 #[true, false, true, true, true, false, false, false, false, false, false, false, false, false, false, false, false, false, false, false] (v := ?_) ops_83_7_4 rfl ops_83_7_ns (by kernel_rfl) (by kernel_rfl) (fun _ _ _ h => h) (by rfl) ?y47 (by assumption) ?_
      case y47 =>
        intro w hSw
        try dsimp only at hSw
        go_simp
        try with_reducible rfl
      simp only [List.set_cons_zero, List.set_cons_succ]
      refine take_to 5 36 #[true, false, true, true, true, true, false, false, false, false, false, false, false, false, false, false, false, false, false, false] (v := ?_) ops_83_7_5 rfl ops_83_7_ns (by kernel_rfl) (by kernel_rfl) (fun _ _ _ h => h) (by rfl) ?y57 (by assumption) ?_
      case y57 =>
        intro w hSw
        try dsimp only at hSw
        go_simp
        try with_reducible rfl
      simp only [List.set_cons_zero, List.set_cons_succ]
      refine take_to 6 37 #[true, false, true, true, true, true, true, false, false, false, false, false, false, false, false, false, false, false, false, false] (v := ?_) ops_83_7_6 rfl ops_83_7_ns (by kernel_rfl) (by kernel_rfl) (fun _ _ _ h => h) (by rfl) ?y67 (by assumption) ?_
      case y67 =>
        intro w hSw
        try dsimp only at hSw
        go_simp
        try with_reducible rfl
      simp only [List.set_cons_zero, List.set_cons_succ]
      refine take_to 10 41 #[true, false, true, true, true, true, true, false, false, false, true, false, false, false, false, false, false, false, false, false] (v := ?_) ops_83_7_10 rfl ops_83_7_ns (by kernel_rfl) (by kernel_rfl) (fun _ _ _ h => h) (by rfl) ?y107 (by assumption) ?_
      case y107 =>
        intro w hSw
        try dsimp only at hSw
        go_simp
        try with_reducible rfl
      simp only [List.set_cons_zero, List.set_cons_succ]
      refine take_to 11 42 #[true, false, true, true, true, true, true, false, false, false, true, true, false, false, false, false, false, false, false, false] (v := ?_) ops_83_7_11 rfl ops_83_7_ns (by kernel_rfl) (by kernel_rfl) (fun _ _ _ h => h) (by rfl) ?y117 (by assumption) ?_
      case y117 =>
        intro w hSw
        try dsimp only at hSw
        go_simp
        try with_reducible rfl
      simp only [List.set_cons_zero, List.set_cons_succ]
      refine take_to 12 43 #[true, false, true, true, true, true, true, false, false, false, true, true, true, false, false, false, false, false, false, false] (v := ?_) ops_83_7_12 rfl ops_83_7_ns (by kernel_rfl) (by kernel_rfl) (fun _ _ _ h => h) (by rfl) ?y127 (by assumption) ?_
      case y127 =>
        intro w hSw
        try dsimp only at hSw
        go_simp
        try with_reducible rfl
      simp only [List.set_cons_zero, List.set_cons_succ]
      refine take_to 13 44 #[true, false, true, true, true, true, true, false, false, false, true, true, true, true, false, false, false, false, false, false] (v := ?_) ops_83_7_13 rfl ops_83_7_ns (by kernel_rfl) (by kernel_rfl) (fun _ _ _ h => h) (by rfl) ?y137 (by assumption) ?_
      case y137 =>
        intro w hSw
        try dsimp only at hSw
        go_simp
        try with_reducible rfl
      simp only [List.set_cons_zero, List.set_cons_succ]
      refine take_to 14 45 #[true, false, true, true, true, true, true, false, false, false, true, true, true, true, true, false, false, false, false, false] (v := ?_) ops_83_7_14 rfl ops_83_7_ns (by kernel_rfl) (by kernel_rfl) (fun _ _ _ h => h) (by rfl) ?y147 (by assumption) ?_
      case y147 =>
        intro w hSw
        try dsimp only at hSw
        go_simp
        try with_reducible rfl
      simp only [List.set_cons_zero, List.set_cons_succ]
      refine run_to 1 #[true, true, true, true, true, true, true, false, false, false, true, true, true, true, true, false, false, false, false, false] ops_83_7_1 (by kernel_rfl) (by kernel_rfl) (by rfl) (fun K hK => ?_)
      go_simp
      refine (unless_calls _ _ _).mono ?_
      rintro e w' ⟨rfl, rfl⟩
      go_wp2_with fail
      refine hK.out _ _ ?_ (fun hHeld => ?_)
      · (exact HS7.out _ (by first | assumption | exact hHeld.1 | exact below_step hHeld.1 (by assumption) | exact below_step hHeld.1 (below_alloc _ _)))
      clear hK K
      try simp only [Act.put, List.setIfInBounds_toArray, List.set_cons_zero, List.set_cons_succ]
      refine run_to 7 #[true, true, true, true, true, true, true, true, false, false, true, true, true, true, true, false, false, false, false, false] ops_83_7_7 (by kernel_rfl) (by kernel_rfl) (by rfl) (fun K hK => ?_)
      go_simp
      refine (fielded_calls lo3 _ (fs.take i) f.who _ (HT.out.below (hb07.trans (hHeld.1.mono hb07.size)))).mono ?_
      rintro e w' ⟨rfl, hb⟩
      go_wp2_with fail
      refine hK.out _ _ ?_ (fun hHeld => ?_)
      · (exact HS7.out _ (by first | assumption | exact hHeld.1 | exact below_step hHeld.1 (by assumption) | exact below_step hHeld.1 (below_alloc _ _)))
      clear hK K
      try simp only [Act.put, List.setIfInBounds_toArray, List.set_cons_zero, List.set_cons_succ]
      refine take_to 8 39 #[true, true, true, true, true, true, true, true, true, false, true, true, true, true, true, false, false, false, false, false] (v := ?_) ops_83_7_8 rfl ops_83_7_ns (by kernel_rfl) (by kernel_rfl) (fun _ _ _ h => h) (by rfl) ?y87 (by assumption) ?_
      case y87 =>
        intro w hSw
        try dsimp only at hSw
        go_simp
        try with_reducible rfl
      simp only [List.set_cons_zero, List.set_cons_succ]
      refine run_to 9 #[true, true, true, true, true, true, true, true, true, true, true, true, true, true, true, false, false, false, false, false] ops_83_7_9 (by kernel_rfl) (by kernel_rfl) (by rfl) (fun K hK => ?_)
      go_simp
      refine (unless_calls _ _ _).mono ?_
      rintro e w' ⟨rfl, rfl⟩
      go_wp2_with fail
      refine hK.out _ _ ?_ (fun hHeld => ?_)
      · (exact HS7.out _ (by first | assumption | exact hHeld.1 | exact below_step hHeld.1 (by assumption) | exact below_step hHeld.1 (below_alloc _ _)))
      clear hK K
      try simp only [Act.put, List.setIfInBounds_toArray, List.set_cons_zero, List.set_cons_succ]
      refine run_to 15 #[true, true, true, true, true, true, true, true, true, true, true, true, true, true, true, true, false, false, false, false] ops_83_7_15 (by kernel_rfl) (by kernel_rfl) (by rfl) (fun K hK => ?_)
      go_simp
      refine (suits_calls _ _ (.slice xa Fc.pos.length xc) (.slice pa s.pos.length pc) Fc s _ (Hx7.out.below hHeld.1) (Hpv.out.below (hb07.trans (hHeld.1.mono hb07.size)))).mono ?_
      rintro e w' ⟨rfl, hb⟩
      go_wp2_with fail
      refine hK.out _ _ ?_ (fun hHeld => ?_)
      · (exact HS7.out _ (by first | assumption | exact hHeld.1 | exact below_step hHeld.1 (by assumption) | exact below_step hHeld.1 (below_alloc _ _)))
      clear hK K
      try simp only [Act.put, List.setIfInBounds_toArray, List.set_cons_zero, List.set_cons_succ]
      refine run_to 16 #[true, true, true, true, true, true, true, true, true, true, true, true, true, true, true, true, true, false, false, false] ops_83_7_16 (by kernel_rfl) (by kernel_rfl) (by rfl) (fun K hK => ?_)
      go_simp
      refine (unless_calls _ _ _).mono ?_
      rintro e w' ⟨rfl, rfl⟩
      go_wp2_with fail
      refine hK.out _ _ ?_ (fun hHeld => ?_)
      · (exact HS7.out _ (by first | assumption | exact hHeld.1 | exact below_step hHeld.1 (by assumption) | exact below_step hHeld.1 (below_alloc _ _)))
      clear hK K
      try simp only [Act.put, List.setIfInBounds_toArray, List.set_cons_zero, List.set_cons_succ]
      refine run_to 17 #[true, true, true, true, true, true, true, true, true, true, true, true, true, true, true, true, true, true, false, false] ops_83_7_17 (by kernel_rfl) (by kernel_rfl) (by rfl) (fun K hK => ?_)
      go_simp
      refine hK.out _ _ ?_ (fun hHeld => ?_)
      · (exact HS7.out _ (by first | assumption | exact hHeld.1 | exact below_step hHeld.1 (by assumption) | exact below_step hHeld.1 (below_alloc _ _)))
      clear hK K
      try simp only [Act.put, List.setIfInBounds_toArray, List.set_cons_zero, List.set_cons_succ]
      refine run_to 18 #[true, true, true, true, true, true, true, true, true, true, true, true, true, true, true, true, true, true, true, false] ops_83_7_18 (by kernel_rfl) (by kernel_rfl) (by rfl) (fun K hK => ?_)
      go_simp
      refine (orE_calls _ 0 3 [unlessE KB 8, unlessE (!inF (fs.take i) f.who) 6, unlessE (suitB Fc s) 10] _ (by simp) (by exact nums3s _ _ _ _ _)).mono ?_
      rintro e w' ⟨rfl, rfl⟩
      go_wp2_with fail
      refine hK.out _ _ ?_ (fun hHeld => ?_)
      · (exact HS7.out _ (by first | assumption | exact hHeld.1 | exact below_step hHeld.1 (by assumption) | exact below_step hHeld.1 (below_alloc _ _)))
      clear hK K
      try simp only [Act.put, List.setIfInBounds_toArray, List.set_cons_zero, List.set_cons_succ]
      refine take_to 19 5 #[true, true, true, true, true, true, true, true, true, true, true, true, true, true, true, true, true, true, true, true] (v := ?_) ops_83_7_19 rfl ops_83_7_ns (by kernel_rfl) (by kernel_rfl) (fun _ _ _ h => h) (by rfl) ?y197 (by assumption) ?_
      case y197 =>
        intro w hSw
        try dsimp only at hSw
        go_simp
        try with_reducible rfl
      simp only [List.set_cons_zero, List.set_cons_succ]
      refine wpAnyH_done (by kernel_rfl) ?_ _
      go_wp2_with fail
      go_ret
      exact ⟨ret_int Hr.out.symm, below_step hb07 hHeld.1⟩
set_option maxRecDepth 100000 in
set_option maxHeartbeats 16000000 in
theorem checkFills_calls (lo lo' lo3 : Nat) (v u z : Value) (ss : List SlD) (cs : List ScD) (fs : List FiD) (w : World) (hS : Sls w lo' v ss) (hs : ∀ c ∈ ss, SmallSl c) (hsn : ss.length ≤ 1000000) (hC : Scs w lo u cs) (hc : ∀ c ∈ cs, SmallSc c) (hcn : cs.length ≤ 1000000) (hlo : lo ≤ w.heap.size) (hF : Fis w lo3 z fs) (hfn : fs.length ≤ 1000000) :
    Calls Tryz.prog 26 #[v, u, z] w (IntBelow (chkFi ss cs fs) w) := by
  obtain ⟨W, hW⟩ : ∃ W, W = ((w.alloc (.cells #[v] 26)).alloc (.cells #[u] 28)).alloc (.cells #[z] 30) := ⟨_, rfl⟩
  have hwW : Below w.heap.size w W := by rw [hW]; exact ((below_alloc w _).trans ((below_alloc _ _).mono (by simp))).trans ((below_alloc _ _).mono (by simp; omega))
  have y0 : W.heap[w.heap.size]? = some (.cells #[v] 26 (0, 0)) := by rw [hW]; exact heap_al (heap_al (heap_alloc_new w _) _) _
  have y1 : W.heap[w.heap.size + 1]? = some (.cells #[u] 28 (0, 0)) := by
    have := heap_alloc_new (w.alloc (.cells #[v] 26)) (.cells #[u] 28)
    rw [World.size_alloc] at this
    rw [hW]; exact heap_al this _
  have y2 : W.heap[w.heap.size + 2]? = some (.cells #[z] 30 (0, 0)) := by
    have := heap_alloc_new ((w.alloc (.cells #[v] 26)).alloc (.cells #[u] 28)) (.cells #[z] 30)
    rw [World.size_alloc, World.size_alloc] at this
    rw [hW]; exact this
  have x0 := cell_at y0 0 rfl
  have x1 := cell_at y1 0 rfl
  have x2 := cell_at y2 0 rfl
  have HSW := Lib.hid (NRows.below hS hwW)
  have HCW := Lib.hid (NRows.below hC hwW)
  have HFW := Lib.hid (Fis.below hF hwW)
  have hloW : lo ≤ W.heap.size := Nat.le_trans hlo hwW.size
  have Hs := Lib.hid hs
  have Hc := Lib.hid hc
  have HF := Lib.hid (show fs.length = ss.length → ∀ (V : World) (i : Nat), i < fs.length → Below W.heap.size W V → Calls Tryz.prog 83 (#[.int .i64 (i : Int)] ++ #[.pointer (some ⟨w.heap.size + 2, 0, none⟩), .pointer (some ⟨w.heap.size, 0, none⟩), .pointer (some ⟨w.heap.size + 1, 0, none⟩)]) V (IntBelow (chF ss cs fs i) V) from by
    intro hl V i hi hb
    obtain ⟨f, hf⟩ : ∃ f, fs[i]? = some f := ⟨_, List.getElem?_eq_getElem hi⟩
    obtain ⟨s, hs⟩ : ∃ s, ss[i]? = some s := ⟨_, List.getElem?_eq_getElem (by omega)⟩
    have hFV := HFW.out.below hb
    have hSV := NRows.below HSW.out hb
    have z2 := below_cell hb x2
    have z0 := below_cell hb x0
    rcases fis_at hFV with ⟨_, h⟩ | ⟨g, off, cap, e, _⟩
    · subst h; simp at hi
    rcases sls_at hSV with ⟨_, h⟩ | ⟨g', off', cap', e', _⟩
    · subst h; simp at hs
    rw [e] at hFV z2
    rw [e'] at hSV z0
    exact checkFills1_calls (w.heap.size + 2) w.heap.size (w.heap.size + 1) g off cap g' off' cap' i lo lo' lo3 u ss cs fs f s V hf hs hfn z2 hFV z0 hSV (below_cell hb x1) (NRows.below HCW.out hb) (Nat.le_trans hloW hb.size))
  have HR := Lib.hid (show chkFi ss cs fs = if ch0 ss cs fs = 0 then eachE fs.length fs.length (chF ss cs fs) else ch0 ss cs fs from rfl)
  have HR0 := Lib.hid (show ch0 ss cs fs = firstE [sdE ss cs, unlessE ((fs.length : Int) == (ss.length : Int)) 3] from rfl)
  have HL := Lib.hid (show ((fs.length : Int) == (ss.length : Int)) = false ∨ (((fs.length : Int) == (ss.length : Int)) = true ∧ fs.length = ss.length) by
    by_cases h : fs.length = ss.length
    · exact .inr ⟨by rw [beq_iff_eq]; omega, h⟩
    · exact .inl (by rw [beq_eq_false_iff_ne]; omega))
  generalize chkFi ss cs fs = R at HR ⊢
  obtain ⟨a, c, rfl⟩ := NRows.shape hS
  obtain ⟨a', c', rfl⟩ := NRows.shape hC
  obtain ⟨a3, c3, rfl⟩ := fis_shape hF
  have HS := Lib.hid (show ∀ w', Below W.heap.size W w' → (Below W.heap.size W w' ∧ w'.cell? ⟨w.heap.size, 0, none⟩ = some (.slice a ss.length c) ∧ w'.cell? ⟨w.heap.size + 1, 0, none⟩ = some (.slice a' cs.length c') ∧ w'.cell? ⟨w.heap.size + 2, 0, none⟩ = some (.slice a3 fs.length c3)) from fun w' hb => ⟨hb, below_cell hb x0, below_cell hb x1, below_cell hb x2⟩)
  have hb0 := (Below.refl W.heap.size W).drew
  clear hS hC hF hs hc y0 y1 y2 x0 x1 x2
  go_enter Tryz.func26, Tryz.ntmps26
  go_upto_region 1 with fail
  rw [← hW]
  clear hW
  show Code.wp _ (Code.region 1 ops_26_1 true) _ _ _
  refine region_start 12 (fun w' => Below W.heap.size W w' ∧ w'.cell? ⟨w.heap.size, 0, none⟩ = some (.slice a ss.length c) ∧ w'.cell? ⟨w.heap.size + 1, 0, none⟩ = some (.slice a' cs.length c') ∧ w'.cell? ⟨w.heap.size + 2, 0, none⟩ = some (.slice a3 fs.length c3)) (by kernel_rfl) rfl ?_ (fun hHeld => ?_)
  · (exact HS.out _ (by first | assumption | exact hHeld.1 | exact below_step hHeld.1 (by assumption) | exact below_step hHeld.1 (below_alloc _ _)))
  refine take_to 0 8 #[true, false, false, false, false, false, false, false, false, false, false, false] (v := ?_) ops_26_1_0 rfl ops_26_1_ns (by kernel_rfl) (by kernel_rfl) (fun _ _ _ h => h) (by rfl) ?y0G (by assumption) ?_
  case y0G =>
    intro w hSw
    try dsimp only at hSw
    go_simp
    try with_reducible rfl
  simp only [List.set_cons_zero, List.set_cons_succ]
  refine take_to 1 9 #[true, true, false, false, false, false, false, false, false, false, false, false] (v := ?_) ops_26_1_1 rfl ops_26_1_ns (by kernel_rfl) (by kernel_rfl) (fun _ _ _ h => h) (by rfl) ?y1G (by assumption) ?_
  case y1G =>
    intro w hSw
    try dsimp only at hSw
    go_simp
    try with_reducible rfl
  simp only [List.set_cons_zero, List.set_cons_succ]
  refine take_to 3 11 #[true, true, false, true, false, false, false, false, false, false, false, false] (v := ?_) ops_26_1_3 rfl ops_26_1_ns (by kernel_rfl) (by kernel_rfl) (fun _ _ _ h => h) (by rfl) ?y3G (by assumption) ?_
  case y3G =>
    intro w hSw
    try dsimp only at hSw
    go_simp
    try with_reducible rfl
  simp only [List.set_cons_zero, List.set_cons_succ]
  refine take_to 4 12 #[true, true, false, true, true, false, false, false, false, false, false, false] (v := ?_) ops_26_1_4 rfl ops_26_1_ns (by kernel_rfl) (by kernel_rfl) (fun _ _ _ h => h) (by rfl) ?y4G (by assumption) ?_
  case y4G =>
    intro w hSw
    try dsimp only at hSw
    go_simp
    try with_reducible rfl
  simp only [List.set_cons_zero, List.set_cons_succ]
  refine take_to 5 13 #[true, true, false, true, true, true, false, false, false, false, false, false] (v := ?_) ops_26_1_5 rfl ops_26_1_ns (by kernel_rfl) (by kernel_rfl) (fun _ _ _ h => h) (by rfl) ?y5G (by assumption) ?_
  case y5G =>
    intro w hSw
    try dsimp only at hSw
    go_simp
    try with_reducible rfl
  simp only [List.set_cons_zero, List.set_cons_succ]
  refine take_to 6 14 #[true, true, false, true, true, true, true, false, false, false, false, false] (v := ?_) ops_26_1_6 rfl ops_26_1_ns (by kernel_rfl) (by kernel_rfl) (fun _ _ _ h => h) (by rfl) ?y6G (by assumption) ?_
  case y6G =>
    intro w hSw
    try dsimp only at hSw
    go_simp
    try with_reducible rfl
  simp only [List.set_cons_zero, List.set_cons_succ]
  refine take_to 7 15 #[true, true, false, true, true, true, true, true, false, false, false, false] (v := ?_) ops_26_1_7 rfl ops_26_1_ns (by kernel_rfl) (by kernel_rfl) (fun _ _ _ h => h) (by rfl) ?y7G (by assumption) ?_
  case y7G =>
    intro w hSw
    try dsimp only at hSw
    go_simp
    try with_reducible rfl
  simp only [List.set_cons_zero, List.set_cons_succ]
  refine run_to 2 #[true, true, true, true, true, true, true, true, false, false, false, false] ops_26_1_2 (by kernel_rfl) (by kernel_rfl) (by rfl) (fun K hK => ?_)
  go_simp
  refine (wrongSides_calls lo' lo _ _ ss cs _ (NRows.below HSW.out hHeld.1) Hs.out hsn (NRows.below HCW.out hHeld.1) Hc.out hcn).mono ?_
  rintro e w' ⟨rfl, hb⟩
  go_wp2_with fail
  refine hK.out _ _ ?_ (fun hHeld => ?_)
  · (exact HS.out _ (by first | assumption | exact hHeld.1 | exact below_step hHeld.1 (by assumption) | exact below_step hHeld.1 (below_alloc _ _)))
  clear hK K
  try simp only [Act.put, List.setIfInBounds_toArray, List.set_cons_zero, List.set_cons_succ]
  refine run_to 8 #[true, true, true, true, true, true, true, true, true, false, false, false] ops_26_1_8 (by kernel_rfl) (by kernel_rfl) (by rfl) (fun K hK => ?_)
  go_simp
  refine (unless_calls _ _ _).mono ?_
  rintro e w' ⟨rfl, rfl⟩
  go_wp2_with fail
  refine hK.out _ _ ?_ (fun hHeld => ?_)
  · (exact HS.out _ (by first | assumption | exact hHeld.1 | exact below_step hHeld.1 (by assumption) | exact below_step hHeld.1 (below_alloc _ _)))
  clear hK K
  try simp only [Act.put, List.setIfInBounds_toArray, List.set_cons_zero, List.set_cons_succ]
  refine run_to 9 #[true, true, true, true, true, true, true, true, true, true, false, false] ops_26_1_9 (by kernel_rfl) (by kernel_rfl) (by rfl) (fun K hK => ?_)
  go_simp
  refine hK.out _ _ ?_ (fun hHeld => ?_)
  · (exact HS.out _ (by first | assumption | exact hHeld.1 | exact below_step hHeld.1 (by assumption) | exact below_step hHeld.1 (below_alloc _ _)))
  clear hK K
  try simp only [Act.put, List.setIfInBounds_toArray, List.set_cons_zero, List.set_cons_succ]
  refine run_to 10 #[true, true, true, true, true, true, true, true, true, true, true, false] ops_26_1_10 (by kernel_rfl) (by kernel_rfl) (by rfl) (fun K hK => ?_)
  go_simp
  refine (orE_calls _ 0 2 [sdE ss cs, unlessE ((fs.length : Int) == (ss.length : Int)) 3] _ (by simp) (by exact nums2 _ _ _ _)).mono ?_
  rintro e w' ⟨rfl, rfl⟩
  go_wp2_with fail
  refine hK.out _ _ ?_ (fun hHeld => ?_)
  · (exact HS.out _ (by first | assumption | exact hHeld.1 | exact below_step hHeld.1 (by assumption) | exact below_step hHeld.1 (below_alloc _ _)))
  clear hK K
  try simp only [Act.put, List.setIfInBounds_toArray, List.set_cons_zero, List.set_cons_succ]
  refine take_to 11 7 #[true, true, true, true, true, true, true, true, true, true, true, true] (v := ?_) ops_26_1_11 rfl ops_26_1_ns (by kernel_rfl) (by kernel_rfl) (fun _ _ _ h => h) (by rfl) ?y11G (by assumption) ?_
  case y11G =>
    intro w hSw
    try dsimp only at hSw
    go_simp
    try with_reducible rfl
  simp only [List.set_cons_zero, List.set_cons_succ]
  refine wpAnyH_done (by kernel_rfl) ?_ _
  have hb1 := hHeld.1
  obtain ⟨-, d0, d1, d2⟩ := hHeld
  rw [← HR0.out]
  by_cases hz : ch0 ss cs fs = 0
  · have hl : fs.length = ss.length := by
      rcases HL.out with h | h
      · rw [HR0.out, h] at hz
        simp [firstE, unlessE] at hz
        split at hz <;> simp_all
      · exact h.2
    have CE := Lib.hid (each_calls 83 #[.pointer (some ⟨w.heap.size + 2, 0, none⟩), .pointer (some ⟨w.heap.size, 0, none⟩), .pointer (some ⟨w.heap.size + 1, 0, none⟩)] (enters_of Tryz.func83 (by kernel_rfl) rfl) (chF ss cs fs) fs.length fs.length _ hfn (fun V i h1 h2 => HF.out hl V i h1 (below_step hb1 h2)))
    have Hz := Lib.hid hz
    rw [hz]
    clear hz hl d0 d1
    go_wp2_with fail
    refine CE.out.mono ?_
    rintro e w' ⟨rfl, hb⟩
    go_wp2_with fail
    go_ret
    exact ⟨ret_int (by rw [HR.out, if_pos Hz.out]), below_step hwW (below_step hb1 hb)⟩
  · have Hz := Lib.hid hz
    have hne : (ch0 ss cs fs == 0) = false := by rw [beq_eq_false_iff_ne]; exact hz
    generalize hX0 : ch0 ss cs fs = X0 at hne HR Hz ⊢
    clear hz d0 d1 d2 hX0
    go_wp2_with fail
    go_ret
    exact ⟨ret_int (by rw [HR.out, if_neg Hz.out]), below_step hwW hb1⟩
end Go.Proofs.YthlfjfmlmcoihaaGreat
